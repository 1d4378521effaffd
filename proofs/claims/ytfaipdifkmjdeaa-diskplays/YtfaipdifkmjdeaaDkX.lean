/- What disk's Sync and Fall answer. Of a disk with at most 1000000 writes under way. -/
import Derived.Test.YtfaipdifkmjdeaaDkT
import Derived.Test.YtfaipdifkmjdeaaMNts
namespace Go.Proofs.Ytfaipdifkmjdeaa
open Go.RowKit

theorem Fr.nts {w a : World} {F : List Nat} {ao : Option Addr} {c : Nat} {l : List Int} (g : Fr w a F) (h : Nts w ao c l) (hb : ∀ ad, ao = some ad → ad.block ∉ F) : Nts a ao c l :=
  ⟨h.zip, h.fits, h.most, h.shape, fun ad e i hi => g.cell (h.cell ad e i hi) (hb ad e)⟩
theorem enter_all : ∀ args w, (callFunc 33 args).run Try.prog w = .ok (.enter 33 args) w := fun args w => by exact enters_of Try.func33 (by kernel_rfl) rfl args w
theorem enter_fate : ∀ args w, (callFunc 35 args).run Try.prog w = .ok (.enter 35 args) w := fun args w => by exact enters_of Try.func35 (by kernel_rfl) rfl args w
theorem dall_any (V : World) (k : Nat) : Calls Try.prog 33 (#[.int .i64 (k : Int)] ++ #[]) V fun e V' => e = .returned (.int .i64 256) ∧ V' = V := by
  simp only [Array.append_empty]
  go_enter Try.func33, Try.ntmps33
  go_wp2
  go_ret
  exact ⟨rfl, rfl⟩
set_option maxRecDepth 100000 in
theorem dfate_any (V : World) (q : Nat) (fo : Option Addr) (fc : Nat) (L : List Int) (hc : V.cell? ⟨q, 0, none⟩ = some (.slice fo L.length fc)) (hL : Nts V fo fc L) (k : Nat) : Calls Try.prog 35 (#[.int .i64 (k : Int)] ++ #[.pointer (some ⟨q, 0, none⟩)]) V fun e V' => e = .returned (.int .i64 (fateL L k)) ∧ V' = V := by
  rw [show (#[.int .i64 (k : Int)] ++ #[.pointer (some ⟨q, 0, none⟩)] : Array Value) = #[.int .i64 (k : Int), .pointer (some ⟨q, 0, none⟩)] from rfl]
  by_cases hk : k < L.length
  · obtain ⟨b, o, rfl, hx⟩ := hL.at k hk
    have e1 : fateL L k = L[k] := by unfold fateL; rw [List.getElem?_eq_getElem hk]; rfl
    rw [← e1] at hx
    obtain ⟨y, hy⟩ : ∃ y, y = fateL L k := ⟨_, rfl⟩
    rw [← hy] at hx ⊢
    obtain ⟨n, hn⟩ : ∃ n, n = L.length := ⟨_, rfl⟩
    rw [← hn] at hc hk
    clear e1 hy hn hL
    go_enter Try.func35, Try.ntmps35
    go_wp2
    go_ret
    exact ⟨rfl, rfl⟩
  · have e1 : fateL L k = -1 := by unfold fateL; rw [List.getElem?_eq_none (by omega)]; rfl
    rw [e1]
    obtain ⟨n, hn⟩ : ∃ n, n = L.length := ⟨_, rfl⟩
    rw [← hn] at hc hk
    clear e1 hn hL
    go_enter Try.func35, Try.ntmps35
    go_wp2
    go_ret
    exact ⟨rfl, rfl⟩

set_option maxRecDepth 100000 in
set_option maxHeartbeats 2000000 in
theorem dsync_any (u : Nat) (w : World) (F : List Nat) (d : Nat) (D : Dsk) (h : DiskAt u w F d D) (hU : D.U.length ≤ 1000000) :
    Calls Try.prog 13 #[.pointer (some ⟨d, 0, none⟩)] w fun e w' => e = .returned (.int .i64 (syD D).2) ∧ Left u w w' F d (syD D).1 := by
  obtain ⟨s, c, m, X, ov, K, h⟩ := h
  have c1 := dstopped_any u w F d s c m X ov K D h
  by_cases hd : D.down = true
  · have hstay : Left u w w F d D := ⟨F, h.at, Fr.refl _ _, fun x hx => Or.inl hx⟩
    have e1 : syD D = (D, 17) := by unfold syD; rw [if_pos hd]
    rw [e1]
    rw [if_pos hd] at c1
    have HS := hide hstay
    clear hstay hd e1 h hU
    go_enter Try.func13, Try.ntmps13
    go_wp2_with (go_at_call 28; refine c1.mono ?_; rintro e w2 ⟨rfl, e2⟩; subst w2; clear c1)
    go_ret
    exact ⟨rfl, unhide HS⟩
  rw [if_neg hd] at c1
  have c2 := dcount_any u w F d s c m X ov K D h
  obtain ⟨D1, hD1⟩ : ∃ D1, D1 = (cntD D).1 := ⟨_, rfl⟩
  obtain ⟨y, hy⟩ : ∃ y, y = (cntD D).2 := ⟨_, rfl⟩
  rw [← hD1, ← hy] at c2
  have hU1 : D1.U.length ≤ 1000000 := by rw [hD1, (cntD_safe D).2]; exact hU
  have hin := h.inD
  have hyy : y = 0 ∨ y = 17 := by rw [hy]; exact cntD_err D
  have e1 : syD D = if y = 0 then (settleD (fun _ => 256) D1, 0) else (D1, y) := by unfold syD; rw [if_neg hd, ← hy, ← hD1]; split <;> first | rfl | exact Prod.ext hD1.symm hy.symm
  rw [e1]
  have HIN := hide hin
  have HU1 := hide hU1
  clear hd e1 h hU hD1 hy hin hU1
  rcases hyy with rfl | rfl
  · rw [if_pos rfl]
    go_enter Try.func13, Try.ntmps13
    go_upto_region 7 with (first
      | (go_at_call 28; refine c1.mono ?_; rintro e w2 ⟨rfl, e2⟩; subst w2; clear c1)
      | (go_at_call 30; refine c2.mono ?_; rintro e w2 ⟨rfl, hM2, g2⟩; have HM2 := hide hM2; have HG2 := hide g2; clear c2 hM2 g2))
    have cs := dsettle_any u w2 F d D1 (unhide HM2).at (unhide HU1) 33 #[] (fun _ => 256) enter_all (fun k V _ _ => dall_any V k)
    go_wp2_with (go_at_call 32; refine cs.mono ?_; rintro e w3 ⟨rfl, hD3, hF3⟩; have HD3 := hide hD3; have HF3 := hide hF3; clear cs hD3 hF3)
    go_ret
    exact ⟨rfl, F, unhide HD3, (Fr.of (unhide HG2) (fun x e => by cases e; exact Or.inl (unhide HIN))).trans (unhide HF3) (fun x hx => Or.inl hx), fun x hx => Or.inl hx⟩
  · rw [if_neg (by decide)]
    go_enter Try.func13, Try.ntmps13
    go_wp2_with (first
      | (go_at_call 28; refine c1.mono ?_; rintro e w2 ⟨rfl, e2⟩; subst w2; clear c1)
      | (go_at_call 30; refine c2.mono ?_; rintro e w2 ⟨rfl, hM2, g2⟩; have HM2 := hide hM2; have HG2 := hide g2; clear c2 hM2 g2))
    go_ret
    exact ⟨rfl, F, (unhide HM2).at, Fr.of (unhide HG2) (fun x e => by cases e; exact Or.inl (unhide HIN)), fun x hx => Or.inl hx⟩

set_option maxRecDepth 100000 in
set_option maxHeartbeats 2000000 in
theorem dfall_any (u : Nat) (w : World) (F : List Nat) (d : Nat) (D : Dsk) (h : DiskAt u w F d D) (hU : D.U.length ≤ 1000000) (fo : Option Addr) (fc : Nat) (L : List Int) (hL : Nts w fo fc L) (hb : ∀ ad, fo = some ad → ad.block ∉ F) :
    Calls Try.prog 15 #[.pointer (some ⟨d, 0, none⟩), .slice fo L.length fc] w fun e w' => e = .returned (.tuple #[]) ∧ DiskAt u w' F d (faD D L) ∧ Fr w w' F := by
  obtain ⟨W1, hW1, hB1, g1⟩ := box_new w 43 [.slice fo L.length fc]
  have h1 := h.none g1
  have hqF : w.heap.size ∉ F := fun hx => by have := (h.low _ hx).2; omega
  have hL1 := hL.kept g1
  have hc1 : W1.cell? ⟨w.heap.size, 0, none⟩ = some (.slice fo L.length fc) := by rw [hB1.cell]; rfl
  have cs := dsettle_any u W1 F d D h1 hU 35 #[.pointer (some ⟨w.heap.size, 0, none⟩)] (fateL L) enter_fate (fun k V _ hF => dfate_any V w.heap.size fo fc L (hF.cell hc1 hqF) (hF.nts hL1 hb) k)
  have cm : Calls Try.prog 34 #[.pointer (some ⟨d, 0, none⟩)] W1 fun e w' => e = .returned (.bool true) ∧ w' = W1 := by
    obtain ⟨s, c, m, X, ov, K, h⟩ := h1
    exact h.made
  have hin : d ∈ F := by
    obtain ⟨s, c, m, X, ov, K, h⟩ := h
    exact h.inD
  have hok := h.ok
  have HW1 := hide hW1
  have HG1 := hide g1
  have HIN := hide hin
  have HOK := hide (hok.fall L)
  clear hW1 g1 hin h h1 hL hL1 hb hc1 hB1 hqF hU hok
  go_enter Try.func15, Try.ntmps15
  go_upto_region 3 with (first
    | (go_at_call 34; refine cm.mono ?_; rintro e w2 ⟨rfl, e2⟩; subst w2; clear cm)
    | (go_at_call 32; refine cs.mono ?_; rintro e w3 ⟨rfl, hD3, hF3⟩; have HD3 := hide hD3; have HF3 := hide hF3; clear cs hD3 hF3)
    | rw [← unhide HW1])
  obtain ⟨s, c, m, X, ov, K, h3⟩ := unhide HD3
  have f3 := h3.blk.fz 3
  have f4 := (h3.blk.set 3 (.int .i64 (-1))).fz 4
  have hc3 := h3.c3
  have hc4 : (w3.setCell ⟨d, 3, none⟩ (.int .i64 (-1))).cell? ⟨d, 4, none⟩ = some (.bool (settleD (fateL L) D).down) := by rw [(h3.blk.set 3 (.int .i64 (-1))).cell]; rfl
  have hg : w3.grownBy ((w3.setCell ⟨d, 3, none⟩ (.int .i64 (-1))).setCell ⟨d, 4, none⟩ (.bool false)) (some d) := gb_trans (gb_set _ _ _ _) (gb_set _ _ _ _) (fun x e => Or.inr e)
  have hfin : DiskAt u ((w3.setCell ⟨d, 3, none⟩ (.int .i64 (-1))).setCell ⟨d, 4, none⟩ (.bool false)) F d (faD D L) := ⟨s, c, m, X, ov, K, h3.head hg rfl rfl ((h3.blk.set 3 (.int .i64 (-1))).set 4 (.bool false)) (unhide HOK)⟩
  have HF := hide hfin
  have HG := hide (((Fr.none (unhide HG1) F).trans (unhide HF3) (fun x hx => Or.inl hx)).then hg (fun x e => by cases e; exact Or.inl (unhide HIN)))
  clear h3 hfin hg HD3 HF3
  go_wp2
  go_end0
  exact ⟨rfl, unhide HF, unhide HG⟩

end Go.Proofs.Ytfaipdifkmjdeaa
