/- What object's ChangeOf and MarkOf answer. Of data of at most 100000 bytes. -/
import Derived.Test.YtcemdlcimhoeeaaOTell
namespace Go.Proofs.Ytcemdlcimhoeeaa
open Go.RowKit

set_option maxRecDepth 100000 in
set_option maxHeartbeats 2000000 in
theorem changeOf_any (w : World) (k : Int) (ao : Option Addr) (c : Nat) (d : List UInt8) (hb : Bts w ao c d) (hd : d.length ≤ 100000) :
    Calls Try.prog 21 #[.agg #[.int .i64 k, .slice ao d.length c]] w fun e w' => ∃ po pc y, e = .returned (.tuple #[.agg (chC (telC k d).2 po pc).toArray, .int .i64 y]) ∧ y = (telC k d).1 ∧ w'.ownsRow w.heap.size 24 32 (.slice po (telC k d).2.pars.length pc) (telC k d).2.pars.length ((telC k d).2.pars.flatMap (·.map bv)) ∧ w.grownBy w' none := by
  obtain ⟨n, hn⟩ : ∃ n, n = d.length := ⟨_, rfl⟩
  obtain ⟨Z, hZ⟩ : ∃ Z : List Value, Z = chC zeroCh none 0 := ⟨_, rfl⟩
  have hzv : ∀ w, (zeroValue 28).run Try.prog w = .ok (.agg Z.toArray) w := fun w => by rw [hZ]; kernel_rfl
  have hzb : Try.prog.built 28 [] = some Z.toArray := by rw [hZ]; kernel_rfl
  have hZl : Z.length = 36 := by rw [hZ]; rfl
  have hZo : Z.toArray.all (·.oneCell') = true := by rw [hZ]; exact all_oneCell_toArray (chC_one _ _ _)
  obtain ⟨W0, hW0, hB0, g0⟩ : ∃ W1, W1 = w.alloc (.cells #[.int .i64 k, .slice ao n c] 35) ∧ Blk W1 w.heap.size 35 [.int .i64 k, .slice ao n c] ∧ w.grownBy W1 none := box_new w _ _
  obtain ⟨Wr, hWr, hBr, gr⟩ : ∃ W1, W1 = W0.alloc (.cells Z.toArray 28) ∧ Blk W1 W0.heap.size 28 Z ∧ W0.grownBy W1 none := box_new W0 _ _
  obtain ⟨W1, hW1, hB1, g1⟩ : ∃ W1, W1 = Wr.alloc (.cells Z.toArray 28) ∧ Blk W1 Wr.heap.size 28 Z ∧ Wr.grownBy W1 none := box_new Wr _ _
  have hs0 : W0.heap.size = w.heap.size + 1 := by rw [hW0]; simp
  have hsr : Wr.heap.size = w.heap.size + 2 := by rw [hWr, hW0]; simp
  rw [hs0] at hBr
  rw [hsr] at hB1
  have hBo := (hB0.kept gr (by simp)).kept g1 (by simp)
  have hBr1 := hBr.kept g1 (by simp)
  have c0 := hBo.cell 0
  have c1 := hBo.cell 1
  simp only [List.getElem?_cons_zero, List.getElem?_cons_succ] at c0 c1
  have G1 := tn (tn g0 gr) g1
  have hs1 : W1.heap.size = w.heap.size + 3 := by rw [hW1, hWr, hW0]; simp
  have hW : W1 = ((w.alloc (.cells #[.int .i64 k, .slice ao n c] 35)).alloc (.cells Z.toArray 28)).alloc (.cells Z.toArray 28) := by rw [hW1, hWr, hW0]
  have HW := hide hW
  have hiZ : (Try.prog.info? 28).map (·.size) = some Z.toArray.size := by rw [show Z.toArray.size = 36 by simpa using hZl]; exact info_chg
  have HIZ := hide hiZ
  have HZB := hide hzb
  have HZO := hide hZo
  have HBR := hide hBr1
  have HZ := hide hZ
  have HZL := hide hZl
  have HG1 := hide G1
  clear hiZ hzb hZo
  by_cases hk : k = 3
  · subst hk
    have cf := formed_C w W1 G1 ao c d hb (by omega) (w.heap.size + 2) 3 (ofChg (readC d)) (fun V => KeptC w (w.heap.size + 2) (readC d) V ∧ Blk V (w.heap.size + 1) 28 Z) (fun a b h g => ⟨h.1.none g, h.2.kept g (by simp)⟩)
      (fun V rb bc gu gw hrb hRd hbk => (cloC_any w V rb (w.heap.size + 2) d (by omega) _ hZl gu (by omega) (by omega) (by omega) hRd (hB1.kept gw (by simp)) W1.heap.size bc hbk (by omega) (by omega) (w.heap.size + 1) _ Z (hBr1.kept gw (by simp)) (by omega) (by omega)))
    rw [← hn] at cf
    rw [← hn]
    have hT : telC 3 d = (if ofChg (readC d) = (0, d) then (0, readC d) else (11, zeroCh)) := by simp [telC]
    obtain ⟨t, ht⟩ : ∃ t, t = telC 3 d := ⟨_, rfl⟩
    rw [← ht] at hT ⊢
    obtain ⟨y, hy⟩ : ∃ y : Int, y = (if ofChg (readC d) = (0, d) then 0 else 11) := ⟨_, rfl⟩
    rw [← hy] at cf
    have hyc : (y = 0 ∧ t = (0, readC d)) ∨ (y = 11 ∧ t = (11, zeroCh)) := by
      by_cases hq : ofChg (readC d) = (0, d)
      · left; rw [hT, hy, if_pos hq, if_pos hq]; exact ⟨rfl, rfl⟩
      · right; rw [hT, hy, if_neg hq, if_neg hq]; exact ⟨rfl, rfl⟩
    have hok := readC_ok d
    clear hW1 hW0 hW hB0 hB1 hBo g0 g1 hT hy hn ht hs0 hs1 hb hd hWr hBr hBr1 gr hsr hZ hZl G1
    rcases hyc with ⟨rfl, ht⟩ | ⟨rfl, ht⟩
    · have HT := hide ht
      clear ht
      go_enter Try.func21, Try.ntmps21
      go_wp2_with (rw [← unhide HW])
      refine cf.mono ?_
      rintro e w2 ⟨rfl, ⟨⟨po, pc, hB2, ho2⟩, hB3⟩, g2⟩
      obtain ⟨C, hC⟩ : ∃ C, C = chC (readC d) po pc := ⟨_, rfl⟩
      rw [← hC] at hB2
      have hCl : C.length = 36 := by rw [hC]; exact chC_len _ _ _ hok.1
      have hCo : C.toArray.all (·.oneCell') = true := by rw [hC]; exact all_oneCell_toArray (chC_one _ _ _)
      have hr2 := blk_all hB2
      have hiC : (Try.prog.info? 28).map (·.size) = some C.length := by rw [hCl]; exact info_chg
      have hiC2 : (Try.prog.info? 28).map (·.size) = some C.toArray.size := by simpa using hiC
      have hZC : Z.toArray.size = C.toArray.size := by have := unhide HZL; simp [this, hCl]
      have HIC := hide hiC
      have HIC2 := hide hiC2
      have HZC := hide hZC
      have HCO := hide hCo
      have HC := hide hC
      have HB2 := hide hB2
      clear cf c0 c1 hiC hiC2 hZC hCo hC hCl hB2 hok
      go_wp2_with (first
        | (refine wpList_load_mid rfl 28 _ rfl (w.heap.size + 2) 0 rfl C _ hr2 Try.underlying28 rfl (unhide HIC) ?_; clear hr2)
        | (refine wpList_store_row rfl 28 _ _ rfl (w.heap.size + 1) C.toArray rfl rfl _ _ hB3 (unhide HIC2) (unhide HZC) (unhide HCO) ?_))
      refine bodyPost_ret (results_row_tmp rfl _ _ _ _ _ _ _ rfl (hB3.row C) Try.underlying28 rfl (unhide HIC2)) rfl ?_
      have gF := gb_row g2 C.toArray (Or.inl (Nat.le_succ w.heap.size))
      rw [unhide HT]
      rw [unhide HC] at gF ⊢
      exact ⟨po, pc, 0, rfl, rfl, own_row_id ho2 hB3 (by decide) _, gF⟩
    · have HT := hide ht
      clear ht
      go_enter Try.func21, Try.ntmps21
      go_wp2_with (rw [← unhide HW])
      refine cf.mono ?_
      rintro e w2 ⟨rfl, ⟨hkp, hB3⟩, g2⟩
      clear cf hkp c0 c1 hok
      go_wp2_with (first
        | (refine wpList_built rfl 28 _ rfl Z.toArray ?hbs ?_)
        | (refine wpList_store_row rfl 28 _ _ rfl (w.heap.size + 1) Z.toArray rfl rfl _ _ hB3 (unhide HIZ) rfl (unhide HZO) ?_))
      case hbs => simpa using unhide HZB
      refine bodyPost_ret (results_row_tmp rfl _ _ _ _ _ _ _ rfl (hB3.row Z) Try.underlying28 rfl (unhide HIZ)) rfl ?_
      have gF := gb_row g2 Z.toArray (Or.inl (Nat.le_succ w.heap.size))
      rw [unhide HT]
      rw [unhide HZ] at gF ⊢
      exact ⟨none, 0, _, rfl, rfl, World.ownsRow_nil _ _ _ _, gF⟩
  · have cf := formed_no W1 k 3 (by simpa using hk) ao n c (.func (.func 47) #[] #[.pointer (some ⟨w.heap.size + 2, 0, none⟩)])
    rw [← hn]
    have ht : telC k d = (2, zeroCh) := by simp [telC, hk]
    have HT := hide ht
    clear hW1 hW0 hW hB0 hB1 hBo g0 g1 hn ht hs0 hs1 hb hd hWr hBr hBr1 gr hsr hZ hZl G1
    go_enter Try.func21, Try.ntmps21
    go_wp2_with (rw [← unhide HW])
    refine cf.mono ?_
    rintro e w2 ⟨rfl, g2a⟩
    have g2 := tn (unhide HG1) g2a
    have hB3 := (unhide HBR).kept g2a (by simp)
    clear cf c0 c1
    go_wp2_with (first
      | (refine wpList_built rfl 28 _ rfl Z.toArray ?hbs ?_)
      | (refine wpList_store_row rfl 28 _ _ rfl (w.heap.size + 1) Z.toArray rfl rfl _ _ hB3 (unhide HIZ) rfl (unhide HZO) ?_))
    case hbs => simpa using unhide HZB
    refine bodyPost_ret (results_row_tmp rfl _ _ _ _ _ _ _ rfl (hB3.row Z) Try.underlying28 rfl (unhide HIZ)) rfl ?_
    have gF := gb_row g2 Z.toArray (Or.inl (Nat.le_succ w.heap.size))
    rw [unhide HT]
    rw [unhide HZ] at gF ⊢
    exact ⟨none, 0, _, rfl, rfl, World.ownsRow_nil _ _ _ _, gF⟩

set_option maxRecDepth 100000 in
set_option maxHeartbeats 2000000 in
theorem markOf_any (w : World) (k : Int) (ao : Option Addr) (c : Nat) (d : List UInt8) (hb : Bts w ao c d) (hd : d.length ≤ 100000) :
    Calls Try.prog 82 #[.agg #[.int .i64 k, .slice ao d.length c]] w fun e w' => ∃ y, e = .returned (.tuple #[.agg (mkC (telM k d).2).toArray, .int .i64 y]) ∧ y = (telM k d).1 ∧ w.grownBy w' none := by
  obtain ⟨n, hn⟩ : ∃ n, n = d.length := ⟨_, rfl⟩
  obtain ⟨Z, hZ⟩ : ∃ Z : List Value, Z = mkC zeroMk := ⟨_, rfl⟩
  have hzv : ∀ w, (zeroValue 30).run Try.prog w = .ok (.agg Z.toArray) w := fun w => by rw [hZ]; kernel_rfl
  have hzb : Try.prog.built 30 [] = some Z.toArray := by rw [hZ]; kernel_rfl
  have hZl : Z.length = 34 := by rw [hZ]; rfl
  have hZo : Z.toArray.all (·.oneCell') = true := by rw [hZ]; exact all_oneCell_toArray (mkC_one _)
  obtain ⟨W0, hW0, hB0, g0⟩ : ∃ W1, W1 = w.alloc (.cells #[.int .i64 k, .slice ao n c] 35) ∧ Blk W1 w.heap.size 35 [.int .i64 k, .slice ao n c] ∧ w.grownBy W1 none := box_new w _ _
  obtain ⟨Wr, hWr, hBr, gr⟩ : ∃ W1, W1 = W0.alloc (.cells Z.toArray 30) ∧ Blk W1 W0.heap.size 30 Z ∧ W0.grownBy W1 none := box_new W0 _ _
  obtain ⟨W1, hW1, hB1, g1⟩ : ∃ W1, W1 = Wr.alloc (.cells Z.toArray 30) ∧ Blk W1 Wr.heap.size 30 Z ∧ Wr.grownBy W1 none := box_new Wr _ _
  have hs0 : W0.heap.size = w.heap.size + 1 := by rw [hW0]; simp
  have hsr : Wr.heap.size = w.heap.size + 2 := by rw [hWr, hW0]; simp
  rw [hs0] at hBr
  rw [hsr] at hB1
  have hBo := (hB0.kept gr (by simp)).kept g1 (by simp)
  have hBr1 := hBr.kept g1 (by simp)
  have c0 := hBo.cell 0
  have c1 := hBo.cell 1
  simp only [List.getElem?_cons_zero, List.getElem?_cons_succ] at c0 c1
  have G1 := tn (tn g0 gr) g1
  have hs1 : W1.heap.size = w.heap.size + 3 := by rw [hW1, hWr, hW0]; simp
  have hW : W1 = ((w.alloc (.cells #[.int .i64 k, .slice ao n c] 35)).alloc (.cells Z.toArray 30)).alloc (.cells Z.toArray 30) := by rw [hW1, hWr, hW0]
  have HW := hide hW
  have hiZ : (Try.prog.info? 30).map (·.size) = some Z.toArray.size := by rw [show Z.toArray.size = 34 by simpa using hZl]; exact info_mrk
  have HIZ := hide hiZ
  have HZB := hide hzb
  have HZO := hide hZo
  have HBR := hide hBr1
  have HZ := hide hZ
  have HZL := hide hZl
  have HG1 := hide G1
  clear hiZ hzb hZo
  by_cases hk : k = 4
  · subst hk
    have cf := formed_M w W1 G1 ao c d hb (by omega) (w.heap.size + 2) 4 (ofMrk (readM d)) (fun V => KeptM (w.heap.size + 2) (readM d) V ∧ Blk V (w.heap.size + 1) 30 Z) (fun a b h g => ⟨h.1.none g, h.2.kept g (by simp)⟩)
      (fun V rb bc gu gw hrb hRd hbk => (cloM_any w V rb (w.heap.size + 2) d (by omega) _ hZl gu (by omega) (by omega) (by omega) hRd (hB1.kept gw (by simp)) W1.heap.size bc hbk (by omega) (by omega) (w.heap.size + 1) _ Z (hBr1.kept gw (by simp)) (by omega) (by omega)))
    rw [← hn] at cf
    rw [← hn]
    have hT : telM 4 d = (if ofMrk (readM d) = (0, d) then (0, readM d) else (11, zeroMk)) := by simp [telM]
    obtain ⟨t, ht⟩ : ∃ t, t = telM 4 d := ⟨_, rfl⟩
    rw [← ht] at hT ⊢
    obtain ⟨y, hy⟩ : ∃ y : Int, y = (if ofMrk (readM d) = (0, d) then 0 else 11) := ⟨_, rfl⟩
    rw [← hy] at cf
    have hyc : (y = 0 ∧ t = (0, readM d)) ∨ (y = 11 ∧ t = (11, zeroMk)) := by
      by_cases hq : ofMrk (readM d) = (0, d)
      · left; rw [hT, hy, if_pos hq, if_pos hq]; exact ⟨rfl, rfl⟩
      · right; rw [hT, hy, if_neg hq, if_neg hq]; exact ⟨rfl, rfl⟩
    have hok := readM_ok d
    clear hW1 hW0 hW hB0 hB1 hBo g0 g1 hT hy hn ht hs0 hs1 hb hd hWr hBr hBr1 gr hsr hZ hZl G1
    rcases hyc with ⟨rfl, ht⟩ | ⟨rfl, ht⟩
    · have HT := hide ht
      clear ht
      go_enter Try.func82, Try.ntmps82
      go_wp2_with (rw [← unhide HW])
      refine cf.mono ?_
      rintro e w2 ⟨rfl, ⟨hB2, hB3⟩, g2⟩
      obtain ⟨C, hC⟩ : ∃ C, C = mkC (readM d) := ⟨_, rfl⟩
      unfold KeptM at hB2
      rw [← hC] at hB2
      have hCl : C.length = 34 := by rw [hC]; exact mkC_len _ hok.1
      have hCo : C.toArray.all (·.oneCell') = true := by rw [hC]; exact all_oneCell_toArray (mkC_one _)
      have hr2 := blk_all hB2
      have hiC : (Try.prog.info? 30).map (·.size) = some C.length := by rw [hCl]; exact info_mrk
      have hiC2 : (Try.prog.info? 30).map (·.size) = some C.toArray.size := by simpa using hiC
      have hZC : Z.toArray.size = C.toArray.size := by have := unhide HZL; simp [this, hCl]
      have HIC := hide hiC
      have HIC2 := hide hiC2
      have HZC := hide hZC
      have HCO := hide hCo
      have HC := hide hC
      have HB2 := hide hB2
      clear cf c0 c1 hiC hiC2 hZC hCo hC hCl hB2 hok
      go_wp2_with (first
        | (refine wpList_load_mid rfl 30 _ rfl (w.heap.size + 2) 0 rfl C _ hr2 Try.underlying30 rfl (unhide HIC) ?_; clear hr2)
        | (refine wpList_store_row rfl 30 _ _ rfl (w.heap.size + 1) C.toArray rfl rfl _ _ hB3 (unhide HIC2) (unhide HZC) (unhide HCO) ?_))
      refine bodyPost_ret (results_row_tmp rfl _ _ _ _ _ _ _ rfl (hB3.row C) Try.underlying30 rfl (unhide HIC2)) rfl ?_
      have gF := gb_row g2 C.toArray (Or.inl (Nat.le_succ w.heap.size))
      rw [unhide HT]
      rw [unhide HC] at gF ⊢
      exact ⟨0, rfl, rfl, gF⟩
    · have HT := hide ht
      clear ht
      go_enter Try.func82, Try.ntmps82
      go_wp2_with (rw [← unhide HW])
      refine cf.mono ?_
      rintro e w2 ⟨rfl, ⟨hkp, hB3⟩, g2⟩
      clear cf hkp c0 c1 hok
      go_wp2_with (first
        | (refine wpList_built rfl 30 _ rfl Z.toArray ?hbs ?_)
        | (refine wpList_store_row rfl 30 _ _ rfl (w.heap.size + 1) Z.toArray rfl rfl _ _ hB3 (unhide HIZ) rfl (unhide HZO) ?_))
      case hbs => simpa using unhide HZB
      refine bodyPost_ret (results_row_tmp rfl _ _ _ _ _ _ _ rfl (hB3.row Z) Try.underlying30 rfl (unhide HIZ)) rfl ?_
      have gF := gb_row g2 Z.toArray (Or.inl (Nat.le_succ w.heap.size))
      rw [unhide HT]
      rw [unhide HZ] at gF ⊢
      exact ⟨_, rfl, rfl, gF⟩
  · have cf := formed_no W1 k 4 (by simpa using hk) ao n c (.func (.func 90) #[] #[.pointer (some ⟨w.heap.size + 2, 0, none⟩)])
    rw [← hn]
    have ht : telM k d = (2, zeroMk) := by simp [telM, hk]
    have HT := hide ht
    clear hW1 hW0 hW hB0 hB1 hBo g0 g1 hn ht hs0 hs1 hb hd hWr hBr hBr1 gr hsr hZ hZl G1
    go_enter Try.func82, Try.ntmps82
    go_wp2_with (rw [← unhide HW])
    refine cf.mono ?_
    rintro e w2 ⟨rfl, g2a⟩
    have g2 := tn (unhide HG1) g2a
    have hB3 := (unhide HBR).kept g2a (by simp)
    clear cf c0 c1
    go_wp2_with (first
      | (refine wpList_built rfl 30 _ rfl Z.toArray ?hbs ?_)
      | (refine wpList_store_row rfl 30 _ _ rfl (w.heap.size + 1) Z.toArray rfl rfl _ _ hB3 (unhide HIZ) rfl (unhide HZO) ?_))
    case hbs => simpa using unhide HZB
    refine bodyPost_ret (results_row_tmp rfl _ _ _ _ _ _ _ rfl (hB3.row Z) Try.underlying30 rfl (unhide HIZ)) rfl ?_
    have gF := gb_row g2 Z.toArray (Or.inl (Nat.le_succ w.heap.size))
    rw [unhide HT]
    rw [unhide HZ] at gF ⊢
    exact ⟨_, rfl, rfl, gF⟩

end Go.Proofs.Ytcemdlcimhoeeaa
