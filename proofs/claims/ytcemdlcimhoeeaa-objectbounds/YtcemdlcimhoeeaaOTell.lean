/- What object's TreeOf, ChangeOf and MarkOf answer. Of data of at most 100000 bytes. -/
import Derived.Test.YtcemdlcimhoeeaaOForm
namespace Go.Proofs.Ytcemdlcimhoeeaa
open Go.RowKit

/-- What TreeOf, ChangeOf, MarkOf tell. -/
def telT (k : Int) (d : List UInt8) : Int × List EntL := if k = 2 then (if ofTree (readT d) = (0, d) then (0, readT d) else (11, [])) else (2, [])
def zeroCh : ChgL := ⟨List.replicate 32 0, [], 0, [], []⟩
def zeroMk : MrkL := ⟨List.replicate 32 0, [], []⟩
def telC (k : Int) (d : List UInt8) : Int × ChgL := if k = 3 then (if ofChg (readC d) = (0, d) then (0, readC d) else (11, zeroCh)) else (2, zeroCh)
def telM (k : Int) (d : List UInt8) : Int × MrkL := if k = 4 then (if ofMrk (readM d) = (0, d) then (0, readM d) else (11, zeroMk)) else (2, zeroMk)

set_option maxRecDepth 100000 in
set_option maxHeartbeats 2000000 in
theorem treeOf_any (w : World) (k : Int) (ao : Option Addr) (c : Nat) (d : List UInt8) (hb : Bts w ao c d) (hd : d.length ≤ 100000) :
    Calls Try.prog 81 #[.agg #[.int .i64 k, .slice ao d.length c]] w fun e w' => ∃ v y, e = .returned (.tuple #[v, .int .i64 y]) ∧ y = (telT k d).1 ∧ w'.ownsRow w.heap.size 32 34 v (telT k d).2.length ((telT k d).2.flatMap enC) ∧ w.grownBy w' none := by
  obtain ⟨n, hn⟩ : ∃ n, n = d.length := ⟨_, rfl⟩
  obtain ⟨W0, hW0, hB0, g0⟩ : ∃ W1, W1 = w.alloc (.cells #[.int .i64 k, .slice ao n c] 35) ∧ Blk W1 w.heap.size 35 [.int .i64 k, .slice ao n c] ∧ w.grownBy W1 none := box_new w _ _
  obtain ⟨W1, hW1, hB1, g1⟩ : ∃ W1, W1 = W0.alloc (.cells #[.slice none 0 0] 22) ∧ Blk W1 W0.heap.size 22 [.slice none 0 0] ∧ W0.grownBy W1 none := box_new W0 _ _
  have hs0 : W0.heap.size = w.heap.size + 1 := by rw [hW0]; simp
  rw [hs0] at hB1
  have hBo := hB0.kept g1 (by simp)
  have c0 := hBo.cell 0
  have c1 := hBo.cell 1
  simp only [List.getElem?_cons_zero, List.getElem?_cons_succ] at c0 c1
  have G1 := tn g0 g1
  have hs1 : W1.heap.size = w.heap.size + 2 := by rw [hW1, hW0]; simp
  have hW : W1 = (w.alloc (.cells #[.int .i64 k, .slice ao n c] 35)).alloc (.cells #[.slice none 0 0] 22) := by rw [hW1, hW0]
  have HW := hide hW
  by_cases hk : k = 2
  · subst hk
    have cf := formed_T w W1 G1 ao c d hb (by omega) (w.heap.size + 1) 2 (ofTree (readT d)) (KeptT w (w.heap.size + 1) (readT d)) (fun a b h g => h.none g)
      (fun V rb bc gu gw hrb hRd hbk => cloT_any w V rb (w.heap.size + 1) d (by omega) _ gu (Nat.le_succ _) (by omega) (by omega) hRd (hB1.kept gw (by simp)) W1.heap.size bc hbk (by omega) (by omega))
    rw [← hn] at cf
    rw [← hn]
    have hT : telT 2 d = (if ofTree (readT d) = (0, d) then (0, readT d) else (11, [])) := by simp [telT]
    obtain ⟨t, ht⟩ : ∃ t, t = telT 2 d := ⟨_, rfl⟩
    rw [← ht] at hT ⊢
    obtain ⟨y, hy⟩ : ∃ y : Int, y = (if ofTree (readT d) = (0, d) then 0 else 11) := ⟨_, rfl⟩
    rw [← hy] at cf
    have hyc : (y = 0 ∧ t = (0, readT d)) ∨ (y = 11 ∧ t = (11, [])) := by
      by_cases hq : ofTree (readT d) = (0, d)
      · left; rw [hT, hy, if_pos hq, if_pos hq]; exact ⟨rfl, rfl⟩
      · right; rw [hT, hy, if_neg hq, if_neg hq]; exact ⟨rfl, rfl⟩
    clear hW1 hW0 hW hB0 hB1 hBo g0 g1 hT hy hn ht hs0 hs1 hb hd
    rcases hyc with ⟨rfl, ht⟩ | ⟨rfl, ht⟩
    · have HT := hide ht
      clear ht
      go_enter Try.func81, Try.ntmps81
      go_wp2_with (rw [← unhide HW])
      refine cf.mono ?_
      rintro e w2 ⟨rfl, ⟨v, hB2, ho2⟩, g2⟩
      have c2 := hB2.cell 0
      simp only [List.getElem?_cons_zero] at c2
      have HO := hide ho2
      clear cf ho2 hB2 c0 c1
      go_wp2
      refine bodyPost_ret (v := .tuple #[v, .int .i64 0]) (by simp [results, Try.results81, go_sem]) rfl ?_
      exact ⟨v, 0, rfl, by rw [unhide HT], by rw [unhide HT]; exact unhide HO, g2⟩
    · have HT := hide ht
      clear ht
      go_enter Try.func81, Try.ntmps81
      go_wp2_with (rw [← unhide HW])
      refine cf.mono ?_
      rintro e w2 ⟨rfl, hkp, g2⟩
      clear cf hkp c0 c1
      go_wp2
      refine bodyPost_ret (v := .tuple #[.slice none 0 0, .int .i64 11]) (by simp [results, Try.results81, go_sem]) rfl ?_
      exact ⟨_, 11, rfl, by rw [unhide HT], by rw [unhide HT]; exact World.ownsRow_nil _ _ _ _, g2⟩
  · have cf := formed_no W1 k 2 (by simpa using hk) ao n c (.func (.func 88) #[] #[.pointer (some ⟨w.heap.size + 1, 0, none⟩)])
    rw [← hn]
    have ht : telT k d = (2, []) := by simp [telT, hk]
    have HT := hide ht
    clear hW1 hW0 hW hB0 hB1 hBo g0 g1 hn ht hs0 hs1 hb hd
    go_enter Try.func81, Try.ntmps81
    go_wp2_with (rw [← unhide HW])
    refine cf.mono ?_
    rintro e w2 ⟨rfl, g2⟩
    clear cf c0 c1
    go_wp2
    refine bodyPost_ret (v := .tuple #[.slice none 0 0, .int .i64 2]) (by simp [results, Try.results81, go_sem]) rfl ?_
    exact ⟨_, 2, rfl, by rw [unhide HT], by rw [unhide HT]; exact World.ownsRow_nil _ _ _ _, tn G1 g2⟩

end Go.Proofs.Ytcemdlcimhoeeaa
