/- ObjectBack answers true of any entries, commit and note, and nothing that was in memory has changed. Condition: sha's tables are laid. -/
import Derived.Test.YtcemdlcimhoeeaaDoorMNeq
import Derived.Test.YtcemdlcimhoeeaaDoorOTree
import Derived.Test.YtcemdlcimhoeeaaDoorOChgM
import Derived.Test.YtcemdlcimhoeeaaDoorOCloT
import Derived.Test.YtcemdlcimhoeeaaDoorOLink
import Derived.Test.YtcemdlcimhoeeaaDoorOId
import Derived.Test.YtcemdlcimhoeeaaDoorOEq
import Derived.Test.YtcemdlcimhoeeaaDoorLSame
import Derived.Test.YtcemdlcimhoeeaaDoorLIds
import Derived.Test.YtcemdlcimhoeeaaDoorMGrd
import Derived.Test.YtcemdlcimhoeeaaDoorOData
namespace Go.Proofs.YtcemdlcimhoeeaaDoor
open Go.RowKit

theorem made_new {w w' : World} {K : Int} {r : Int × List UInt8} {e : Ending} (h : Made w w' K r e) : ∃ a c, e = .returned (.tuple #[.agg #[.int .i64 (if r.1 = 0 then K else 0), .slice a r.2.length c], .int .i64 r.1]) ∧ Bts w' a c r.2 ∧ (∀ ad, a = some ad → Typ w' ad.block) ∧ w.grownBy w' none := by
  obtain ⟨v, h1, ⟨a, c, rfl, hb, ht⟩, g⟩ := h
  exact ⟨a, c, h1, hb, fun ad e => (ht ad e).2, g⟩

set_option maxRecDepth 100000 in
set_option maxHeartbeats 32000000 in
theorem back_law (w : World) (ao : Option Addr) (c : Nat) (es : List EntL) (hE : Ens w ao c es) (hs : ∀ e ∈ es, e.name.length ≤ 140737488355328) (cg : ChgL) (po : Option Addr) (pc : Nat) (hP : Ids w po pc cg.pars) (ht : cg.tree.length = 32) (htm : cg.time < 18446744073709551616) (ha : cg.author.length ≤ 140737488355328) (hx : cg.text.length ≤ 140737488355328) (mk : MrkL) (hmt : mk.target.length = 32) (hma : mk.name.length ≤ 140737488355328) (hmx : mk.text.length ≤ 140737488355328) (hT : Tabs w) :
    Calls Tryd.prog 3 #[.slice ao es.length c, .agg (chC cg po pc).toArray, .agg (mkC mk).toArray] w fun e w' => e = .returned (.bool true) ∧ w.grownBy w' none := by
  obtain ⟨n, hn⟩ : ∃ n, n = es.length := ⟨_, rfl⟩
  obtain ⟨p, hp⟩ : ∃ n, n = cg.pars.length := ⟨_, rfl⟩
  obtain ⟨na, hna⟩ : ∃ n, n = cg.author.length := ⟨_, rfl⟩
  obtain ⟨nx, hnx⟩ : ∃ n, n = cg.text.length := ⟨_, rfl⟩
  obtain ⟨nn, hnn⟩ : ∃ n, n = mk.name.length := ⟨_, rfl⟩
  obtain ⟨ny, hny⟩ : ∃ n, n = mk.text.length := ⟨_, rfl⟩
  obtain ⟨at1, at2, at3, at4⟩ := chC_at cg po pc ht
  obtain ⟨bt1, bt2⟩ := mkC_at mk hmt
  have hCl := chC_len cg po pc ht
  have hMl := mkC_len mk hmt
  obtain ⟨CC, hCC⟩ : ∃ C, C = chC cg po pc := ⟨_, rfl⟩
  obtain ⟨MC, hMC⟩ : ∃ C, C = mkC mk := ⟨_, rfl⟩
  rw [← hCC] at at1 at2 at3 at4 hCl
  rw [← hMC] at bt1 bt2 hMl
  rw [← hn, ← hCC, ← hMC]
  obtain ⟨TA, hTA⟩ : ∃ T, T = str cg.author := ⟨_, rfl⟩
  obtain ⟨TX, hTX⟩ : ∃ T, T = str cg.text := ⟨_, rfl⟩
  obtain ⟨TN, hTN⟩ : ∃ T, T = str mk.name := ⟨_, rfl⟩
  obtain ⟨TY, hTY⟩ : ∃ T, T = str mk.text := ⟨_, rfl⟩
  rw [← hp] at at1
  obtain ⟨tm, htm9⟩ : ∃ t : Int, t = (cg.time : Int) := ⟨_, rfl⟩
  rw [← htm9] at at2
  rw [← hTA] at at3
  rw [← hTX] at at4
  rw [← hTN] at bt1
  rw [← hTY] at bt2
  have zA : TA.size = na := by rw [hTA, str_size, hna]
  have zX : TX.size = nx := by rw [hTX, str_size, hnx]
  have zN : TN.size = nn := by rw [hTN, str_size, hnn]
  have zY : TY.size = ny := by rw [hTY, str_size, hny]
  obtain ⟨Wa, hWa, hBa, ga⟩ := box_new w 28 CC
  have hWb : ∃ W1, W1 = Wa.alloc (.cells MC.toArray 30) ∧ Blk W1 (w.heap.size + 1) 30 MC ∧ Wa.grownBy W1 none := by
    refine ⟨_, rfl, ?_, gb_alloc (gb_refl _ _) _⟩
    have hsz : Wa.heap.size = w.heap.size + 1 := by rw [hWa]; simp
    rw [← hsz]
    exact Blk.new Wa _ _
  obtain ⟨W0, hW0, hB0, gb⟩ := hWb
  have hBC := hBa.kept gb (by simp)
  have G0 := tn ga gb
  have hW : W0 = (w.alloc (.cells CC.toArray 28)).alloc (.cells MC.toArray 30) := by rw [hW0, hWa]
  have HW := hide hW
  have k1 : W0.cell? ⟨w.heap.size, 32, none⟩ = some (.slice po p pc) := by rw [hBC.cell 32, at1]
  have k2 : W0.cell? ⟨w.heap.size, 33, none⟩ = some (.int .u64 tm) := by rw [hBC.cell 33, at2]
  have k3 : W0.cell? ⟨w.heap.size, 34, none⟩ = some (.string TA) := by rw [hBC.cell 34, at3]
  have k4 : W0.cell? ⟨w.heap.size, 35, none⟩ = some (.string TX) := by rw [hBC.cell 35, at4]
  have k5 : W0.cell? ⟨w.heap.size + 1, 32, none⟩ = some (.string TN) := by rw [hB0.cell 32, bt1]
  have k6 : W0.cell? ⟨w.heap.size + 1, 33, none⟩ = some (.string TY) := by rw [hB0.cell 33, bt2]
  have vA : na ≤ 140737488355328 := by omega
  have vX : nx ≤ 140737488355328 := by omega
  have vN : nn ≤ 140737488355328 := by omega
  have vY : ny ≤ 140737488355328 := by omega
  have wA : IntKind.i64.wrap ((na : Int) + (nx : Int)) = (na : Int) + (nx : Int) := by rw [IntKind.wrap_i64]; omega
  have wN : IntKind.i64.wrap ((nn : Int) + (ny : Int)) = (nn : Int) + (ny : Int) := by rw [IntKind.wrap_i64]; omega
  have HRC := hide (blk_all hBC)
  have HRM := hide (blk_all hB0)
  clear at1 at2 at3 at4 bt1 bt2 hWa hW0 hW hBa hBC hB0 ga gb hTN hTY
  have HTA := hide hTA
  have HTX := hide hTX
  have HTM9 := hide htm9
  clear hTA hTX htm9
  by_cases h1 : (40 : Int) < (n : Int)
  · clear hT hE hs hP ha hx hma hmx hn hp hna hnx hnn hny hCC hMC
    go_enter Tryd.func3, Tryd.ntmps3
    go_upto_region 1 with (rw [← unhide HW])
    refine region_named fun O hO => ?_
    refine wpList_val (by rw [hO]; kernel_rfl) (.slice ao n c) (fun K9 hK9 => by go_simp; exact hK9) ?_
    (try simp only [Act.put, List.setIfInBounds_toArray, List.set_cons_zero, List.set_cons_succ])
    refine wpList_val (by rw [hO]; kernel_rfl) (.int .i64 (n : Int)) (fun K9 hK9 => by go_simp; exact hK9) ?_
    (try simp only [Act.put, List.setIfInBounds_toArray, List.set_cons_zero, List.set_cons_succ])
    refine wpList_val (by rw [hO]; kernel_rfl) (.bool true) (fun K9 hK9 => by go_simp; exact hK9) ?_
    (try simp only [Act.put, List.setIfInBounds_toArray, List.set_cons_zero, List.set_cons_succ])
    refine wpList_val (by rw [hO]; kernel_rfl) (.bool true) (fun K9 hK9 => by go_simp; exact hK9) ?_
    (try simp only [Act.put, List.setIfInBounds_toArray, List.set_cons_zero, List.set_cons_succ])
    refine wpList_skip (by rw [hO]; kernel_rfl) ?_
    (try simp only [Act.put, List.setIfInBounds_toArray, List.set_cons_zero, List.set_cons_succ])
    refine wpList_skip (by rw [hO]; kernel_rfl) ?_
    (try simp only [Act.put, List.setIfInBounds_toArray, List.set_cons_zero, List.set_cons_succ])
    refine wpList_skip (by rw [hO]; kernel_rfl) ?_
    (try simp only [Act.put, List.setIfInBounds_toArray, List.set_cons_zero, List.set_cons_succ])
    refine wpList_skip (by rw [hO]; kernel_rfl) ?_
    (try simp only [Act.put, List.setIfInBounds_toArray, List.set_cons_zero, List.set_cons_succ])
    refine wpList_val (by rw [hO]; kernel_rfl) (.bool true) (fun K9 hK9 => by go_simp; exact hK9) ?_
    (try simp only [Act.put, List.setIfInBounds_toArray, List.set_cons_zero, List.set_cons_succ])
    refine wpList_val (by rw [hO]; kernel_rfl) (.bool true) (fun K9 hK9 => by go_simp; exact hK9) ?_
    (try simp only [Act.put, List.setIfInBounds_toArray, List.set_cons_zero, List.set_cons_succ])
    refine wpList_skip (by rw [hO]; kernel_rfl) ?_
    (try simp only [Act.put, List.setIfInBounds_toArray, List.set_cons_zero, List.set_cons_succ])
    refine wpList_skip (by rw [hO]; kernel_rfl) ?_
    (try simp only [Act.put, List.setIfInBounds_toArray, List.set_cons_zero, List.set_cons_succ])
    refine wpList_skip (by rw [hO]; kernel_rfl) ?_
    (try simp only [Act.put, List.setIfInBounds_toArray, List.set_cons_zero, List.set_cons_succ])
    refine wpList_skip (by rw [hO]; kernel_rfl) ?_
    (try simp only [Act.put, List.setIfInBounds_toArray, List.set_cons_zero, List.set_cons_succ])
    refine wpList_skip (by rw [hO]; kernel_rfl) ?_
    (try simp only [Act.put, List.setIfInBounds_toArray, List.set_cons_zero, List.set_cons_succ])
    refine wpList_skip (by rw [hO]; kernel_rfl) ?_
    (try simp only [Act.put, List.setIfInBounds_toArray, List.set_cons_zero, List.set_cons_succ])
    refine wpList_skip (by rw [hO]; kernel_rfl) ?_
    (try simp only [Act.put, List.setIfInBounds_toArray, List.set_cons_zero, List.set_cons_succ])
    refine wpList_skip (by rw [hO]; kernel_rfl) ?_
    (try simp only [Act.put, List.setIfInBounds_toArray, List.set_cons_zero, List.set_cons_succ])
    refine wpList_val (by rw [hO]; kernel_rfl) (.bool true) (fun K9 hK9 => by go_simp; exact hK9) ?_
    (try simp only [Act.put, List.setIfInBounds_toArray, List.set_cons_zero, List.set_cons_succ])
    refine wpList_val (by rw [hO]; kernel_rfl) (.bool true) (fun K9 hK9 => by go_simp; exact hK9) ?_
    (try simp only [Act.put, List.setIfInBounds_toArray, List.set_cons_zero, List.set_cons_succ])
    refine wpList_skip (by rw [hO]; kernel_rfl) ?_
    (try simp only [Act.put, List.setIfInBounds_toArray, List.set_cons_zero, List.set_cons_succ])
    refine wpList_skip (by rw [hO]; kernel_rfl) ?_
    (try simp only [Act.put, List.setIfInBounds_toArray, List.set_cons_zero, List.set_cons_succ])
    refine wpList_skip (by rw [hO]; kernel_rfl) ?_
    (try simp only [Act.put, List.setIfInBounds_toArray, List.set_cons_zero, List.set_cons_succ])
    refine wpList_skip (by rw [hO]; kernel_rfl) ?_
    (try simp only [Act.put, List.setIfInBounds_toArray, List.set_cons_zero, List.set_cons_succ])
    refine wpList_skip (by rw [hO]; kernel_rfl) ?_
    (try simp only [Act.put, List.setIfInBounds_toArray, List.set_cons_zero, List.set_cons_succ])
    refine wpList_skip (by rw [hO]; kernel_rfl) ?_
    (try simp only [Act.put, List.setIfInBounds_toArray, List.set_cons_zero, List.set_cons_succ])
    refine wpList_skip (by rw [hO]; kernel_rfl) ?_
    (try simp only [Act.put, List.setIfInBounds_toArray, List.set_cons_zero, List.set_cons_succ])
    refine wpList_skip (by rw [hO]; kernel_rfl) ?_
    (try simp only [Act.put, List.setIfInBounds_toArray, List.set_cons_zero, List.set_cons_succ])
    refine wpList_val (by rw [hO]; kernel_rfl) (.bool true) (fun K9 hK9 => by go_simp; exact hK9) ?_
    (try simp only [Act.put, List.setIfInBounds_toArray, List.set_cons_zero, List.set_cons_succ])
    go_wp2
    go_ret
    exact ⟨rfl, G0⟩
  by_cases h2 : (10 : Int) < (p : Int)
  · clear hT hE hs hP ha hx hma hmx hn hp hna hnx hnn hny hCC hMC
    go_enter Tryd.func3, Tryd.ntmps3
    go_upto_region 1 with (rw [← unhide HW])
    refine region_named fun O hO => ?_
    refine wpList_val (by rw [hO]; kernel_rfl) (.slice ao n c) (fun K9 hK9 => by go_simp; exact hK9) ?_
    (try simp only [Act.put, List.setIfInBounds_toArray, List.set_cons_zero, List.set_cons_succ])
    refine wpList_val (by rw [hO]; kernel_rfl) (.int .i64 (n : Int)) (fun K9 hK9 => by go_simp; exact hK9) ?_
    (try simp only [Act.put, List.setIfInBounds_toArray, List.set_cons_zero, List.set_cons_succ])
    refine wpList_val (by rw [hO]; kernel_rfl) (.bool false) (fun K9 hK9 => by go_simp; exact hK9) ?_
    (try simp only [Act.put, List.setIfInBounds_toArray, List.set_cons_zero, List.set_cons_succ])
    refine wpList_val (by rw [hO]; kernel_rfl) (.bool false) (fun K9 hK9 => by go_simp; exact hK9) ?_
    (try simp only [Act.put, List.setIfInBounds_toArray, List.set_cons_zero, List.set_cons_succ])
    refine wpList_val (by rw [hO]; kernel_rfl) (.pointer (some ⟨w.heap.size, 32, none⟩)) (fun K9 hK9 => by go_simp; exact hK9) ?_
    (try simp only [Act.put, List.setIfInBounds_toArray, List.set_cons_zero, List.set_cons_succ])
    refine wpList_val (by rw [hO]; kernel_rfl) (.slice po p pc) (fun K9 hK9 => by go_simp; exact hK9) ?_
    (try simp only [Act.put, List.setIfInBounds_toArray, List.set_cons_zero, List.set_cons_succ])
    refine wpList_val (by rw [hO]; kernel_rfl) (.int .i64 (p : Int)) (fun K9 hK9 => by go_simp; exact hK9) ?_
    (try simp only [Act.put, List.setIfInBounds_toArray, List.set_cons_zero, List.set_cons_succ])
    refine wpList_val (by rw [hO]; kernel_rfl) (.bool true) (fun K9 hK9 => by go_simp; exact hK9) ?_
    (try simp only [Act.put, List.setIfInBounds_toArray, List.set_cons_zero, List.set_cons_succ])
    refine wpList_val (by rw [hO]; kernel_rfl) (.bool true) (fun K9 hK9 => by go_simp; exact hK9) ?_
    (try simp only [Act.put, List.setIfInBounds_toArray, List.set_cons_zero, List.set_cons_succ])
    refine wpList_val (by rw [hO]; kernel_rfl) (.bool true) (fun K9 hK9 => by go_simp; exact hK9) ?_
    (try simp only [Act.put, List.setIfInBounds_toArray, List.set_cons_zero, List.set_cons_succ])
    refine wpList_skip (by rw [hO]; kernel_rfl) ?_
    (try simp only [Act.put, List.setIfInBounds_toArray, List.set_cons_zero, List.set_cons_succ])
    refine wpList_skip (by rw [hO]; kernel_rfl) ?_
    (try simp only [Act.put, List.setIfInBounds_toArray, List.set_cons_zero, List.set_cons_succ])
    refine wpList_skip (by rw [hO]; kernel_rfl) ?_
    (try simp only [Act.put, List.setIfInBounds_toArray, List.set_cons_zero, List.set_cons_succ])
    refine wpList_skip (by rw [hO]; kernel_rfl) ?_
    (try simp only [Act.put, List.setIfInBounds_toArray, List.set_cons_zero, List.set_cons_succ])
    refine wpList_skip (by rw [hO]; kernel_rfl) ?_
    (try simp only [Act.put, List.setIfInBounds_toArray, List.set_cons_zero, List.set_cons_succ])
    refine wpList_skip (by rw [hO]; kernel_rfl) ?_
    (try simp only [Act.put, List.setIfInBounds_toArray, List.set_cons_zero, List.set_cons_succ])
    refine wpList_skip (by rw [hO]; kernel_rfl) ?_
    (try simp only [Act.put, List.setIfInBounds_toArray, List.set_cons_zero, List.set_cons_succ])
    refine wpList_skip (by rw [hO]; kernel_rfl) ?_
    (try simp only [Act.put, List.setIfInBounds_toArray, List.set_cons_zero, List.set_cons_succ])
    refine wpList_val (by rw [hO]; kernel_rfl) (.bool true) (fun K9 hK9 => by go_simp; exact hK9) ?_
    (try simp only [Act.put, List.setIfInBounds_toArray, List.set_cons_zero, List.set_cons_succ])
    refine wpList_val (by rw [hO]; kernel_rfl) (.bool true) (fun K9 hK9 => by go_simp; exact hK9) ?_
    (try simp only [Act.put, List.setIfInBounds_toArray, List.set_cons_zero, List.set_cons_succ])
    refine wpList_skip (by rw [hO]; kernel_rfl) ?_
    (try simp only [Act.put, List.setIfInBounds_toArray, List.set_cons_zero, List.set_cons_succ])
    refine wpList_skip (by rw [hO]; kernel_rfl) ?_
    (try simp only [Act.put, List.setIfInBounds_toArray, List.set_cons_zero, List.set_cons_succ])
    refine wpList_skip (by rw [hO]; kernel_rfl) ?_
    (try simp only [Act.put, List.setIfInBounds_toArray, List.set_cons_zero, List.set_cons_succ])
    refine wpList_skip (by rw [hO]; kernel_rfl) ?_
    (try simp only [Act.put, List.setIfInBounds_toArray, List.set_cons_zero, List.set_cons_succ])
    refine wpList_skip (by rw [hO]; kernel_rfl) ?_
    (try simp only [Act.put, List.setIfInBounds_toArray, List.set_cons_zero, List.set_cons_succ])
    refine wpList_skip (by rw [hO]; kernel_rfl) ?_
    (try simp only [Act.put, List.setIfInBounds_toArray, List.set_cons_zero, List.set_cons_succ])
    refine wpList_skip (by rw [hO]; kernel_rfl) ?_
    (try simp only [Act.put, List.setIfInBounds_toArray, List.set_cons_zero, List.set_cons_succ])
    refine wpList_skip (by rw [hO]; kernel_rfl) ?_
    (try simp only [Act.put, List.setIfInBounds_toArray, List.set_cons_zero, List.set_cons_succ])
    refine wpList_val (by rw [hO]; kernel_rfl) (.bool true) (fun K9 hK9 => by go_simp; exact hK9) ?_
    (try simp only [Act.put, List.setIfInBounds_toArray, List.set_cons_zero, List.set_cons_succ])
    go_wp2
    go_ret
    exact ⟨rfl, G0⟩
  by_cases h3 : (40000 : Int) < (na : Int) + (nx : Int)
  · clear hT hE hs hP ha hx hma hmx hn hp hna hnx hnn hny hCC hMC
    go_enter Tryd.func3, Tryd.ntmps3
    go_upto_region 1 with (rw [← unhide HW])
    refine region_named fun O hO => ?_
    refine wpList_val (by rw [hO]; kernel_rfl) (.slice ao n c) (fun K9 hK9 => by go_simp; exact hK9) ?_
    (try simp only [Act.put, List.setIfInBounds_toArray, List.set_cons_zero, List.set_cons_succ])
    refine wpList_val (by rw [hO]; kernel_rfl) (.int .i64 (n : Int)) (fun K9 hK9 => by go_simp; exact hK9) ?_
    (try simp only [Act.put, List.setIfInBounds_toArray, List.set_cons_zero, List.set_cons_succ])
    refine wpList_val (by rw [hO]; kernel_rfl) (.bool false) (fun K9 hK9 => by go_simp; exact hK9) ?_
    (try simp only [Act.put, List.setIfInBounds_toArray, List.set_cons_zero, List.set_cons_succ])
    refine wpList_val (by rw [hO]; kernel_rfl) (.bool false) (fun K9 hK9 => by go_simp; exact hK9) ?_
    (try simp only [Act.put, List.setIfInBounds_toArray, List.set_cons_zero, List.set_cons_succ])
    refine wpList_val (by rw [hO]; kernel_rfl) (.pointer (some ⟨w.heap.size, 32, none⟩)) (fun K9 hK9 => by go_simp; exact hK9) ?_
    (try simp only [Act.put, List.setIfInBounds_toArray, List.set_cons_zero, List.set_cons_succ])
    refine wpList_val (by rw [hO]; kernel_rfl) (.slice po p pc) (fun K9 hK9 => by go_simp; exact hK9) ?_
    (try simp only [Act.put, List.setIfInBounds_toArray, List.set_cons_zero, List.set_cons_succ])
    refine wpList_val (by rw [hO]; kernel_rfl) (.int .i64 (p : Int)) (fun K9 hK9 => by go_simp; exact hK9) ?_
    (try simp only [Act.put, List.setIfInBounds_toArray, List.set_cons_zero, List.set_cons_succ])
    refine wpList_val (by rw [hO]; kernel_rfl) (.bool false) (fun K9 hK9 => by go_simp; exact hK9) ?_
    (try simp only [Act.put, List.setIfInBounds_toArray, List.set_cons_zero, List.set_cons_succ])
    refine wpList_val (by rw [hO]; kernel_rfl) (.bool false) (fun K9 hK9 => by go_simp; exact hK9) ?_
    (try simp only [Act.put, List.setIfInBounds_toArray, List.set_cons_zero, List.set_cons_succ])
    refine wpList_val (by rw [hO]; kernel_rfl) (.bool false) (fun K9 hK9 => by go_simp; exact hK9) ?_
    (try simp only [Act.put, List.setIfInBounds_toArray, List.set_cons_zero, List.set_cons_succ])
    refine wpList_val (by rw [hO]; kernel_rfl) (.pointer (some ⟨w.heap.size, 34, none⟩)) (fun K9 hK9 => by go_simp; exact hK9) ?_
    (try simp only [Act.put, List.setIfInBounds_toArray, List.set_cons_zero, List.set_cons_succ])
    refine wpList_val (by rw [hO]; kernel_rfl) (.string TA) (fun K9 hK9 => by go_simp; exact hK9) ?_
    (try simp only [Act.put, List.setIfInBounds_toArray, List.set_cons_zero, List.set_cons_succ])
    refine wpList_val (by rw [hO]; kernel_rfl) (.int .i64 (na : Int)) (fun K9 hK9 => by go_simp; exact hK9) ?_
    (try simp only [Act.put, List.setIfInBounds_toArray, List.set_cons_zero, List.set_cons_succ])
    refine wpList_val (by rw [hO]; kernel_rfl) (.pointer (some ⟨w.heap.size, 35, none⟩)) (fun K9 hK9 => by go_simp; exact hK9) ?_
    (try simp only [Act.put, List.setIfInBounds_toArray, List.set_cons_zero, List.set_cons_succ])
    refine wpList_val (by rw [hO]; kernel_rfl) (.string TX) (fun K9 hK9 => by go_simp; exact hK9) ?_
    (try simp only [Act.put, List.setIfInBounds_toArray, List.set_cons_zero, List.set_cons_succ])
    refine wpList_val (by rw [hO]; kernel_rfl) (.int .i64 (nx : Int)) (fun K9 hK9 => by go_simp; exact hK9) ?_
    (try simp only [Act.put, List.setIfInBounds_toArray, List.set_cons_zero, List.set_cons_succ])
    refine wpList_val (by rw [hO]; kernel_rfl) (.int .i64 ((na : Int) + (nx : Int))) (fun K9 hK9 => by go_simp; exact hK9) ?_
    (try simp only [Act.put, List.setIfInBounds_toArray, List.set_cons_zero, List.set_cons_succ])
    refine wpList_val (by rw [hO]; kernel_rfl) (.bool true) (fun K9 hK9 => by go_simp; exact hK9) ?_
    (try simp only [Act.put, List.setIfInBounds_toArray, List.set_cons_zero, List.set_cons_succ])
    refine wpList_val (by rw [hO]; kernel_rfl) (.bool true) (fun K9 hK9 => by go_simp; exact hK9) ?_
    (try simp only [Act.put, List.setIfInBounds_toArray, List.set_cons_zero, List.set_cons_succ])
    refine wpList_val (by rw [hO]; kernel_rfl) (.bool true) (fun K9 hK9 => by go_simp; exact hK9) ?_
    (try simp only [Act.put, List.setIfInBounds_toArray, List.set_cons_zero, List.set_cons_succ])
    refine wpList_skip (by rw [hO]; kernel_rfl) ?_
    (try simp only [Act.put, List.setIfInBounds_toArray, List.set_cons_zero, List.set_cons_succ])
    refine wpList_skip (by rw [hO]; kernel_rfl) ?_
    (try simp only [Act.put, List.setIfInBounds_toArray, List.set_cons_zero, List.set_cons_succ])
    refine wpList_skip (by rw [hO]; kernel_rfl) ?_
    (try simp only [Act.put, List.setIfInBounds_toArray, List.set_cons_zero, List.set_cons_succ])
    refine wpList_skip (by rw [hO]; kernel_rfl) ?_
    (try simp only [Act.put, List.setIfInBounds_toArray, List.set_cons_zero, List.set_cons_succ])
    refine wpList_skip (by rw [hO]; kernel_rfl) ?_
    (try simp only [Act.put, List.setIfInBounds_toArray, List.set_cons_zero, List.set_cons_succ])
    refine wpList_skip (by rw [hO]; kernel_rfl) ?_
    (try simp only [Act.put, List.setIfInBounds_toArray, List.set_cons_zero, List.set_cons_succ])
    refine wpList_skip (by rw [hO]; kernel_rfl) ?_
    (try simp only [Act.put, List.setIfInBounds_toArray, List.set_cons_zero, List.set_cons_succ])
    refine wpList_skip (by rw [hO]; kernel_rfl) ?_
    (try simp only [Act.put, List.setIfInBounds_toArray, List.set_cons_zero, List.set_cons_succ])
    refine wpList_val (by rw [hO]; kernel_rfl) (.bool true) (fun K9 hK9 => by go_simp; exact hK9) ?_
    (try simp only [Act.put, List.setIfInBounds_toArray, List.set_cons_zero, List.set_cons_succ])
    go_wp2
    go_ret
    exact ⟨rfl, G0⟩
  by_cases h4 : (40000 : Int) < (nn : Int) + (ny : Int)
  · clear hT hE hs hP ha hx hma hmx hn hp hna hnx hnn hny hCC hMC
    go_enter Tryd.func3, Tryd.ntmps3
    go_upto_region 1 with (rw [← unhide HW])
    refine region_named fun O hO => ?_
    refine wpList_val (by rw [hO]; kernel_rfl) (.slice ao n c) (fun K9 hK9 => by go_simp; exact hK9) ?_
    (try simp only [Act.put, List.setIfInBounds_toArray, List.set_cons_zero, List.set_cons_succ])
    refine wpList_val (by rw [hO]; kernel_rfl) (.int .i64 (n : Int)) (fun K9 hK9 => by go_simp; exact hK9) ?_
    (try simp only [Act.put, List.setIfInBounds_toArray, List.set_cons_zero, List.set_cons_succ])
    refine wpList_val (by rw [hO]; kernel_rfl) (.bool false) (fun K9 hK9 => by go_simp; exact hK9) ?_
    (try simp only [Act.put, List.setIfInBounds_toArray, List.set_cons_zero, List.set_cons_succ])
    refine wpList_val (by rw [hO]; kernel_rfl) (.bool false) (fun K9 hK9 => by go_simp; exact hK9) ?_
    (try simp only [Act.put, List.setIfInBounds_toArray, List.set_cons_zero, List.set_cons_succ])
    refine wpList_val (by rw [hO]; kernel_rfl) (.pointer (some ⟨w.heap.size, 32, none⟩)) (fun K9 hK9 => by go_simp; exact hK9) ?_
    (try simp only [Act.put, List.setIfInBounds_toArray, List.set_cons_zero, List.set_cons_succ])
    refine wpList_val (by rw [hO]; kernel_rfl) (.slice po p pc) (fun K9 hK9 => by go_simp; exact hK9) ?_
    (try simp only [Act.put, List.setIfInBounds_toArray, List.set_cons_zero, List.set_cons_succ])
    refine wpList_val (by rw [hO]; kernel_rfl) (.int .i64 (p : Int)) (fun K9 hK9 => by go_simp; exact hK9) ?_
    (try simp only [Act.put, List.setIfInBounds_toArray, List.set_cons_zero, List.set_cons_succ])
    refine wpList_val (by rw [hO]; kernel_rfl) (.bool false) (fun K9 hK9 => by go_simp; exact hK9) ?_
    (try simp only [Act.put, List.setIfInBounds_toArray, List.set_cons_zero, List.set_cons_succ])
    refine wpList_val (by rw [hO]; kernel_rfl) (.bool false) (fun K9 hK9 => by go_simp; exact hK9) ?_
    (try simp only [Act.put, List.setIfInBounds_toArray, List.set_cons_zero, List.set_cons_succ])
    refine wpList_val (by rw [hO]; kernel_rfl) (.bool false) (fun K9 hK9 => by go_simp; exact hK9) ?_
    (try simp only [Act.put, List.setIfInBounds_toArray, List.set_cons_zero, List.set_cons_succ])
    refine wpList_val (by rw [hO]; kernel_rfl) (.pointer (some ⟨w.heap.size, 34, none⟩)) (fun K9 hK9 => by go_simp; exact hK9) ?_
    (try simp only [Act.put, List.setIfInBounds_toArray, List.set_cons_zero, List.set_cons_succ])
    refine wpList_val (by rw [hO]; kernel_rfl) (.string TA) (fun K9 hK9 => by go_simp; exact hK9) ?_
    (try simp only [Act.put, List.setIfInBounds_toArray, List.set_cons_zero, List.set_cons_succ])
    refine wpList_val (by rw [hO]; kernel_rfl) (.int .i64 (na : Int)) (fun K9 hK9 => by go_simp; exact hK9) ?_
    (try simp only [Act.put, List.setIfInBounds_toArray, List.set_cons_zero, List.set_cons_succ])
    refine wpList_val (by rw [hO]; kernel_rfl) (.pointer (some ⟨w.heap.size, 35, none⟩)) (fun K9 hK9 => by go_simp; exact hK9) ?_
    (try simp only [Act.put, List.setIfInBounds_toArray, List.set_cons_zero, List.set_cons_succ])
    refine wpList_val (by rw [hO]; kernel_rfl) (.string TX) (fun K9 hK9 => by go_simp; exact hK9) ?_
    (try simp only [Act.put, List.setIfInBounds_toArray, List.set_cons_zero, List.set_cons_succ])
    refine wpList_val (by rw [hO]; kernel_rfl) (.int .i64 (nx : Int)) (fun K9 hK9 => by go_simp; exact hK9) ?_
    (try simp only [Act.put, List.setIfInBounds_toArray, List.set_cons_zero, List.set_cons_succ])
    refine wpList_val (by rw [hO]; kernel_rfl) (.int .i64 ((na : Int) + (nx : Int))) (fun K9 hK9 => by go_simp; exact hK9) ?_
    (try simp only [Act.put, List.setIfInBounds_toArray, List.set_cons_zero, List.set_cons_succ])
    refine wpList_val (by rw [hO]; kernel_rfl) (.bool false) (fun K9 hK9 => by go_simp; exact hK9) ?_
    (try simp only [Act.put, List.setIfInBounds_toArray, List.set_cons_zero, List.set_cons_succ])
    refine wpList_val (by rw [hO]; kernel_rfl) (.bool false) (fun K9 hK9 => by go_simp; exact hK9) ?_
    (try simp only [Act.put, List.setIfInBounds_toArray, List.set_cons_zero, List.set_cons_succ])
    refine wpList_val (by rw [hO]; kernel_rfl) (.bool false) (fun K9 hK9 => by go_simp; exact hK9) ?_
    (try simp only [Act.put, List.setIfInBounds_toArray, List.set_cons_zero, List.set_cons_succ])
    refine wpList_val (by rw [hO]; kernel_rfl) (.pointer (some ⟨w.heap.size + 1, 32, none⟩)) (fun K9 hK9 => by go_simp; exact hK9) ?_
    (try simp only [Act.put, List.setIfInBounds_toArray, List.set_cons_zero, List.set_cons_succ])
    refine wpList_val (by rw [hO]; kernel_rfl) (.string TN) (fun K9 hK9 => by go_simp; exact hK9) ?_
    (try simp only [Act.put, List.setIfInBounds_toArray, List.set_cons_zero, List.set_cons_succ])
    refine wpList_val (by rw [hO]; kernel_rfl) (.int .i64 (nn : Int)) (fun K9 hK9 => by go_simp; exact hK9) ?_
    (try simp only [Act.put, List.setIfInBounds_toArray, List.set_cons_zero, List.set_cons_succ])
    refine wpList_val (by rw [hO]; kernel_rfl) (.pointer (some ⟨w.heap.size + 1, 33, none⟩)) (fun K9 hK9 => by go_simp; exact hK9) ?_
    (try simp only [Act.put, List.setIfInBounds_toArray, List.set_cons_zero, List.set_cons_succ])
    refine wpList_val (by rw [hO]; kernel_rfl) (.string TY) (fun K9 hK9 => by go_simp; exact hK9) ?_
    (try simp only [Act.put, List.setIfInBounds_toArray, List.set_cons_zero, List.set_cons_succ])
    refine wpList_val (by rw [hO]; kernel_rfl) (.int .i64 (ny : Int)) (fun K9 hK9 => by go_simp; exact hK9) ?_
    (try simp only [Act.put, List.setIfInBounds_toArray, List.set_cons_zero, List.set_cons_succ])
    refine wpList_val (by rw [hO]; kernel_rfl) (.int .i64 ((nn : Int) + (ny : Int))) (fun K9 hK9 => by go_simp; exact hK9) ?_
    (try simp only [Act.put, List.setIfInBounds_toArray, List.set_cons_zero, List.set_cons_succ])
    refine wpList_val (by rw [hO]; kernel_rfl) (.bool true) (fun K9 hK9 => by go_simp; exact hK9) ?_
    (try simp only [Act.put, List.setIfInBounds_toArray, List.set_cons_zero, List.set_cons_succ])
    refine wpList_val (by rw [hO]; kernel_rfl) (.bool true) (fun K9 hK9 => by go_simp; exact hK9) ?_
    (try simp only [Act.put, List.setIfInBounds_toArray, List.set_cons_zero, List.set_cons_succ])
    go_wp2
    go_ret
    exact ⟨rfl, G0⟩
  obtain ⟨⟨Y1, D1⟩, hY1⟩ : ∃ r, r = ofTree es := ⟨_, rfl⟩
  obtain ⟨⟨Y2, D2⟩, hY2⟩ : ∃ r, r = ofChg cg := ⟨_, rfl⟩
  obtain ⟨⟨Y3, D3⟩, hY3⟩ : ∃ r, r = ofMrk mk := ⟨_, rfl⟩
  obtain ⟨K1, hK1⟩ : ∃ K : Int, K = if Y1 = 0 then 2 else 0 := ⟨_, rfl⟩
  obtain ⟨K2, hK2⟩ : ∃ K : Int, K = if Y2 = 0 then 3 else 0 := ⟨_, rfl⟩
  obtain ⟨K3, hK3⟩ : ∃ K : Int, K = if Y3 = 0 then 4 else 0 := ⟨_, rfl⟩
  obtain ⟨m1, hm1⟩ : ∃ n, n = D1.length := ⟨_, rfl⟩
  obtain ⟨m2, hm2⟩ : ∃ n, n = D2.length := ⟨_, rfl⟩
  obtain ⟨m3, hm3⟩ : ∃ n, n = D3.length := ⟨_, rfl⟩
  have HT : Hid (∀ V, w.grownBy V none → Calls Tryd.prog 5 #[.slice ao n c] V fun e w' => ∃ a c, e = .returned (.tuple #[.agg #[.int .i64 K1, .slice a m1 c], .int .i64 Y1]) ∧ Bts w' a c D1 ∧ (∀ ad, a = some ad → Typ w' ad.block) ∧ V.grownBy w' none) := hide fun V gV => by
    have z := (ofTree_any V ao c es (hE.none gV) hs).mono fun _ _ h => made_new h
    rw [← hn, ← hY1] at z
    simpa only [← hK1, ← hm1] using z
  have HC : Hid (∀ V, w.grownBy V none → Calls Tryd.prog 7 #[.agg CC.toArray] V fun e w' => ∃ a c, e = .returned (.tuple #[.agg #[.int .i64 K2, .slice a m2 c], .int .i64 Y2]) ∧ Bts w' a c D2 ∧ (∀ ad, a = some ad → Typ w' ad.block) ∧ V.grownBy w' none) := hide fun V gV => by
    have z := (ofChg_any V cg po pc (hP.none gV) ht (by omega) (by omega) (by omega)).mono fun _ _ h => made_new h
    rw [← hCC, ← hY2] at z
    simpa only [← hK2, ← hm2] using z
  have HM : Hid (∀ V : World, Calls Tryd.prog 12 #[.agg MC.toArray] V fun e w' => ∃ a c, e = .returned (.tuple #[.agg #[.int .i64 K3, .slice a m3 c], .int .i64 Y3]) ∧ Bts w' a c D3 ∧ (∀ ad, a = some ad → Typ w' ad.block) ∧ V.grownBy w' none) := hide fun V => by
    have z := (ofMrk_any V mk hmt (by omega) (by omega)).mono fun _ _ h => made_new h
    rw [← hMC, ← hY3] at z
    simpa only [← hK3, ← hm3] using z
  have HJC : Hid ((Tryd.prog.info? 28).map (·.size) = some CC.length) := hide (by rw [hCl]; exact info_chg)
  have HJM : Hid ((Tryd.prog.info? 30).map (·.size) = some MC.length) := hide (by rw [hMl]; exact info_mrk)
  have HE := hide hE
  have HN := hide hn
  have HP := hide hP
  have HPP := hide hp
  have HTT := hide ht
  have HTM := hide htm
  have HMT := hide hmt
  have HM1 := hide hm1
  have HM2 := hide hm2
  have HM3 := hide hm3
  have HY1 := hide hY1
  have HY2 := hide hY2
  have HY3 := hide hY3
  have HK1 := hide hK1
  have HK2 := hide hK2
  have HK3 := hide hK3
  have HCC := hide hCC
  have HMC := hide hMC
  have HG := hide G0
  have HTB := hide (hT.kept0 G0)
  have hn40 : n ≤ 40 := by omega
  have hp10 : p ≤ 10 := by omega
  clear hE hs hP ha hx hma hmx hn hp hna hnx hnn hny hCC hMC hY1 hY2 hY3 hK1 hK2 hK3 hm1 hm2 hm3 ht htm hmt hCl hMl G0 hT
  go_enter Tryd.func3, Tryd.ntmps3
  go_upto_region 1 with (rw [← unhide HW])
  refine region_named fun O hO => ?_
  refine wpList_val (by rw [hO]; kernel_rfl) (.slice ao n c) (fun K9 hK9 => by go_simp; exact hK9) ?_
  (try simp only [Act.put, List.setIfInBounds_toArray, List.set_cons_zero, List.set_cons_succ])
  refine wpList_val (by rw [hO]; kernel_rfl) (.int .i64 (n : Int)) (fun K9 hK9 => by go_simp; exact hK9) ?_
  (try simp only [Act.put, List.setIfInBounds_toArray, List.set_cons_zero, List.set_cons_succ])
  refine wpList_val (by rw [hO]; kernel_rfl) (.bool false) (fun K9 hK9 => by go_simp; exact hK9) ?_
  (try simp only [Act.put, List.setIfInBounds_toArray, List.set_cons_zero, List.set_cons_succ])
  refine wpList_val (by rw [hO]; kernel_rfl) (.bool false) (fun K9 hK9 => by go_simp; exact hK9) ?_
  (try simp only [Act.put, List.setIfInBounds_toArray, List.set_cons_zero, List.set_cons_succ])
  refine wpList_val (by rw [hO]; kernel_rfl) (.pointer (some ⟨w.heap.size, 32, none⟩)) (fun K9 hK9 => by go_simp; exact hK9) ?_
  (try simp only [Act.put, List.setIfInBounds_toArray, List.set_cons_zero, List.set_cons_succ])
  refine wpList_val (by rw [hO]; kernel_rfl) (.slice po p pc) (fun K9 hK9 => by go_simp; exact hK9) ?_
  (try simp only [Act.put, List.setIfInBounds_toArray, List.set_cons_zero, List.set_cons_succ])
  refine wpList_val (by rw [hO]; kernel_rfl) (.int .i64 (p : Int)) (fun K9 hK9 => by go_simp; exact hK9) ?_
  (try simp only [Act.put, List.setIfInBounds_toArray, List.set_cons_zero, List.set_cons_succ])
  refine wpList_val (by rw [hO]; kernel_rfl) (.bool false) (fun K9 hK9 => by go_simp; exact hK9) ?_
  (try simp only [Act.put, List.setIfInBounds_toArray, List.set_cons_zero, List.set_cons_succ])
  refine wpList_val (by rw [hO]; kernel_rfl) (.bool false) (fun K9 hK9 => by go_simp; exact hK9) ?_
  (try simp only [Act.put, List.setIfInBounds_toArray, List.set_cons_zero, List.set_cons_succ])
  refine wpList_val (by rw [hO]; kernel_rfl) (.bool false) (fun K9 hK9 => by go_simp; exact hK9) ?_
  (try simp only [Act.put, List.setIfInBounds_toArray, List.set_cons_zero, List.set_cons_succ])
  refine wpList_val (by rw [hO]; kernel_rfl) (.pointer (some ⟨w.heap.size, 34, none⟩)) (fun K9 hK9 => by go_simp; exact hK9) ?_
  (try simp only [Act.put, List.setIfInBounds_toArray, List.set_cons_zero, List.set_cons_succ])
  refine wpList_val (by rw [hO]; kernel_rfl) (.string TA) (fun K9 hK9 => by go_simp; exact hK9) ?_
  (try simp only [Act.put, List.setIfInBounds_toArray, List.set_cons_zero, List.set_cons_succ])
  refine wpList_val (by rw [hO]; kernel_rfl) (.int .i64 (na : Int)) (fun K9 hK9 => by go_simp; exact hK9) ?_
  (try simp only [Act.put, List.setIfInBounds_toArray, List.set_cons_zero, List.set_cons_succ])
  refine wpList_val (by rw [hO]; kernel_rfl) (.pointer (some ⟨w.heap.size, 35, none⟩)) (fun K9 hK9 => by go_simp; exact hK9) ?_
  (try simp only [Act.put, List.setIfInBounds_toArray, List.set_cons_zero, List.set_cons_succ])
  refine wpList_val (by rw [hO]; kernel_rfl) (.string TX) (fun K9 hK9 => by go_simp; exact hK9) ?_
  (try simp only [Act.put, List.setIfInBounds_toArray, List.set_cons_zero, List.set_cons_succ])
  refine wpList_val (by rw [hO]; kernel_rfl) (.int .i64 (nx : Int)) (fun K9 hK9 => by go_simp; exact hK9) ?_
  (try simp only [Act.put, List.setIfInBounds_toArray, List.set_cons_zero, List.set_cons_succ])
  refine wpList_val (by rw [hO]; kernel_rfl) (.int .i64 ((na : Int) + (nx : Int))) (fun K9 hK9 => by go_simp; exact hK9) ?_
  (try simp only [Act.put, List.setIfInBounds_toArray, List.set_cons_zero, List.set_cons_succ])
  refine wpList_val (by rw [hO]; kernel_rfl) (.bool false) (fun K9 hK9 => by go_simp; exact hK9) ?_
  (try simp only [Act.put, List.setIfInBounds_toArray, List.set_cons_zero, List.set_cons_succ])
  refine wpList_val (by rw [hO]; kernel_rfl) (.bool false) (fun K9 hK9 => by go_simp; exact hK9) ?_
  (try simp only [Act.put, List.setIfInBounds_toArray, List.set_cons_zero, List.set_cons_succ])
  refine wpList_val (by rw [hO]; kernel_rfl) (.bool false) (fun K9 hK9 => by go_simp; exact hK9) ?_
  (try simp only [Act.put, List.setIfInBounds_toArray, List.set_cons_zero, List.set_cons_succ])
  refine wpList_val (by rw [hO]; kernel_rfl) (.pointer (some ⟨w.heap.size + 1, 32, none⟩)) (fun K9 hK9 => by go_simp; exact hK9) ?_
  (try simp only [Act.put, List.setIfInBounds_toArray, List.set_cons_zero, List.set_cons_succ])
  refine wpList_val (by rw [hO]; kernel_rfl) (.string TN) (fun K9 hK9 => by go_simp; exact hK9) ?_
  (try simp only [Act.put, List.setIfInBounds_toArray, List.set_cons_zero, List.set_cons_succ])
  refine wpList_val (by rw [hO]; kernel_rfl) (.int .i64 (nn : Int)) (fun K9 hK9 => by go_simp; exact hK9) ?_
  (try simp only [Act.put, List.setIfInBounds_toArray, List.set_cons_zero, List.set_cons_succ])
  refine wpList_val (by rw [hO]; kernel_rfl) (.pointer (some ⟨w.heap.size + 1, 33, none⟩)) (fun K9 hK9 => by go_simp; exact hK9) ?_
  (try simp only [Act.put, List.setIfInBounds_toArray, List.set_cons_zero, List.set_cons_succ])
  refine wpList_val (by rw [hO]; kernel_rfl) (.string TY) (fun K9 hK9 => by go_simp; exact hK9) ?_
  (try simp only [Act.put, List.setIfInBounds_toArray, List.set_cons_zero, List.set_cons_succ])
  refine wpList_val (by rw [hO]; kernel_rfl) (.int .i64 (ny : Int)) (fun K9 hK9 => by go_simp; exact hK9) ?_
  (try simp only [Act.put, List.setIfInBounds_toArray, List.set_cons_zero, List.set_cons_succ])
  refine wpList_val (by rw [hO]; kernel_rfl) (.int .i64 ((nn : Int) + (ny : Int))) (fun K9 hK9 => by go_simp; exact hK9) ?_
  (try simp only [Act.put, List.setIfInBounds_toArray, List.set_cons_zero, List.set_cons_succ])
  refine wpList_val (by rw [hO]; kernel_rfl) (.bool false) (fun K9 hK9 => by go_simp; exact hK9) ?_
  (try simp only [Act.put, List.setIfInBounds_toArray, List.set_cons_zero, List.set_cons_succ])
  refine wpList_val (by rw [hO]; kernel_rfl) (.bool false) (fun K9 hK9 => by go_simp; exact hK9) ?_
  (try simp only [Act.put, List.setIfInBounds_toArray, List.set_cons_zero, List.set_cons_succ])
  go_upto_region 4 with fail
  go_wp2_with fail
  refine (unhide HT W0 (unhide HG)).mono ?_
  rintro e w1 ⟨a1, c1, rfl, hb1, ht1, g1⟩
  obtain ⟨W1, hW1, hB1, g1b⟩ : ∃ W, W = w1.alloc (.cells #[.int .i64 K1, .slice a1 m1 c1] 34) ∧ Blk W w1.heap.size 34 [.int .i64 K1, .slice a1 m1 c1] ∧ w1.grownBy W none := box_new w1 _ _
  have HB1 := hide hB1
  have HD1 := hide (hb1.kept g1b (fun _ e => by cases e))
  have HY9 : Hid (∀ ad, a1 = some ad → Typ W1 ad.block) := hide fun ad e => (ht1 ad e).kept g1b (by simp)
  have G1 := tn g1 g1b
  have HW1 := hide hW1
  clear hB1 hb1 ht1 hW1 g1 g1b
  go_upto_region 5 with (rw [← unhide HW1])
  rename_i J1 hJ1 K5 hK5
  have fin1 : ∀ (V : World) (v7 : Value) (R : List ObjR) (d6 d8 d9 d10 d11 d12 d28 d29 d30 d31 d32 d33 d34 d35 d36 d37 d38 d39 d40 d41 d42 d43 d44 d45 d46 d47 d48 d49 d50 d51 d52 d53 d54 d55 d56 d57 d58 d59 d60 d61 d62 d63 d64 d65 d66 d67 d68 d69 d70 d71 d72 d73 d74 d75 d76 d77 d78 d79 d80 d81 d82 d83 d84 d85 d86 d87 d88 d89 d90 d91 d92 d93 d94 d95 d96 : Value), W0.grownBy V none → Objs V W0.heap.size v7 R → Okl 2 R → J1 { tmps := #[.slice ao n c, .agg CC.toArray, .agg MC.toArray, undef, .pointer (some ⟨w.heap.size, 0, none⟩), .pointer (some ⟨w.heap.size + 1, 0, none⟩), d6, v7, d8, d9, d10, d11, d12, undef, undef, undef, undef, undef, undef, undef, undef, undef, undef, undef, undef, undef, undef, undef, d28, d29, d30, d31, d32, d33, d34, d35, d36, d37, d38, d39, d40, d41, d42, d43, d44, d45, d46, d47, d48, d49, d50, d51, d52, d53, d54, d55, d56, d57, d58, d59, d60, d61, d62, d63, d64, d65, d66, d67, d68, d69, d70, d71, d72, d73, d74, d75, d76, d77, d78, d79, d80, d81, d82, d83, d84, d85, d86, d87, d88, d89, d90, d91, d92, d93, d94, d95, d96, undef, undef, undef, undef, undef, undef, undef, undef, undef, undef, undef, undef, undef, undef, undef, undef, undef, undef, undef, undef, undef, undef, undef, undef, undef, undef, undef, undef, undef, undef, undef, undef, undef, undef, undef, undef, undef, undef, undef, undef, undef, undef, undef, undef, undef, undef, undef, undef, undef, undef, undef, undef, undef, undef, undef, undef, undef, undef, undef, undef, undef, undef, undef, undef, undef, undef, undef, undef, undef, undef, undef, undef, undef, undef, undef, undef, undef, undef, undef, undef, undef, undef, undef, undef, undef, undef, undef, undef, undef, undef, undef, undef, undef, undef, undef, undef, undef, undef, undef, undef, undef, undef, undef, undef, undef, undef, undef, undef, undef, undef, undef, undef, undef, undef, undef, undef, undef, undef, undef, undef, undef, undef, undef, undef, undef, undef, undef, undef, undef, undef, undef, undef, undef, undef, undef, undef, undef, undef, undef, undef, undef, undef, undef, undef, undef, undef, undef, undef, undef, undef, undef, undef, undef, undef, undef, undef, undef, undef, undef, undef, undef, undef, undef, undef, undef, undef, undef, undef, undef, undef], defers := [] } V := by
    as_aux_lemma =>
      intro V v7 R d6 d8 d9 d10 d11 d12 d28 d29 d30 d31 d32 d33 d34 d35 d36 d37 d38 d39 d40 d41 d42 d43 d44 d45 d46 d47 d48 d49 d50 d51 d52 d53 d54 d55 d56 d57 d58 d59 d60 d61 d62 d63 d64 d65 d66 d67 d68 d69 d70 d71 d72 d73 d74 d75 d76 d77 d78 d79 d80 d81 d82 d83 d84 d85 d86 d87 d88 d89 d90 d91 d92 d93 d94 d95 d96 hV hO hR
      refine hJ1 _ _ ?_
      clear hJ1 hK5 HB1 HD1 HY9 G1 HW1
      have HV := hide hV
      have HO := hide hO
      have HR := hide hR
      have l1 := hV.cell k1 (by simp)
      have l2 := hV.cell k2 (by simp)
      have l3 := hV.cell k3 (by simp)
      have l4 := hV.cell k4 (by simp)
      have hrC := range_kept (unhide HRC) hV (by simp)
      clear hO hR k1 k2 k3 k4 k5 k6
      go_wp2_with (refine wpList_load_mid rfl 28 _ rfl w.heap.size 0 rfl CC _ hrC Tryd.underlying28 rfl (unhide HJC) ?_)
      refine (unhide HC V (tn (unhide HG) hV)).mono ?_
      rintro e w4 ⟨a2, c2, rfl, hb2, ht2, g2⟩
      obtain ⟨W4, hW4, hB4, g2b⟩ : ∃ W, W = w4.alloc (.cells #[.int .i64 K2, .slice a2 m2 c2] 34) ∧ Blk W w4.heap.size 34 [.int .i64 K2, .slice a2 m2 c2] ∧ w4.grownBy W none := box_new w4 _ _
      have gT := tn g2 g2b
      have HB4 := hide hB4
      have HD4 := hide (hb2.kept g2b (fun _ e => by cases e))
      have HY4 : Hid (∀ ad, a2 = some ad → Typ W4 ad.block) := hide fun ad e => (ht2 ad e).kept g2b (by simp)
      replace HV := hide (tn (unhide HV) gT)
      replace HO := hide ((unhide HO).none gT)
      replace l1 := gT.cell l1 (by simp)
      replace l2 := gT.cell l2 (by simp)
      replace l3 := gT.cell l3 (by simp)
      replace l4 := gT.cell l4 (by simp)
      replace hrC := range_kept hrC gT (by simp)
      have HW4 := hide hW4
      clear hB4 hb2 ht2 hW4 g2 g2b gT hV
      go_upto_region 16 with (rw [← unhide HW4])
      rename_i J2 hJ2 K16 hK16
      have fin2 : ∀ (V : World) (v7 : Value) (R : List ObjR) (d6 d8 d9 d10 d11 d12 d13 d14 d15 d16 d28 d29 d30 d31 d32 d33 d34 d35 d36 d37 d38 d39 d40 d41 d42 d43 d44 d45 d46 d47 d48 d49 d50 d51 d52 d53 d54 d55 d56 d57 d58 d59 d60 d61 d62 d63 d64 d65 d66 d67 d68 d69 d70 d71 d72 d73 d74 d75 d76 d77 d78 d79 d80 d81 d82 d83 d84 d85 d86 d87 d88 d89 d90 d91 d92 d93 d94 d95 d96 d97 d98 d99 d100 d101 d102 d103 d104 d105 d106 d107 d108 d109 d110 d111 d112 d113 d114 d115 d116 d117 d118 d119 d120 d121 d122 d123 d124 d125 d126 d127 d128 d129 d130 d131 d132 d133 d134 d135 d136 d137 d138 d139 d140 d141 d142 d143 d144 d145 d146 d147 d148 d149 d150 d151 d152 d153 d154 d155 d156 d157 d158 d159 d160 d161 d162 : Value), W0.grownBy V none → Objs V W0.heap.size v7 R → Okl 3 R → J2 { tmps := #[.slice ao n c, .agg CC.toArray, .agg MC.toArray, undef, .pointer (some ⟨w.heap.size, 0, none⟩), .pointer (some ⟨w.heap.size + 1, 0, none⟩), d6, v7, d8, d9, d10, d11, d12, d13, d14, d15, d16, undef, undef, undef, undef, undef, undef, undef, undef, undef, undef, undef, d28, d29, d30, d31, d32, d33, d34, d35, d36, d37, d38, d39, d40, d41, d42, d43, d44, d45, d46, d47, d48, d49, d50, d51, d52, d53, d54, d55, d56, d57, d58, d59, d60, d61, d62, d63, d64, d65, d66, d67, d68, d69, d70, d71, d72, d73, d74, d75, d76, d77, d78, d79, d80, d81, d82, d83, d84, d85, d86, d87, d88, d89, d90, d91, d92, d93, d94, d95, d96, d97, d98, d99, d100, d101, d102, d103, d104, d105, d106, d107, d108, d109, d110, d111, d112, d113, d114, d115, d116, d117, d118, d119, d120, d121, d122, d123, d124, d125, d126, d127, d128, d129, d130, d131, d132, d133, d134, d135, d136, d137, d138, d139, d140, d141, d142, d143, d144, d145, d146, d147, d148, d149, d150, d151, d152, d153, d154, d155, d156, d157, d158, d159, d160, d161, d162, undef, undef, undef, undef, undef, undef, undef, undef, undef, undef, undef, undef, undef, undef, undef, undef, undef, undef, undef, undef, undef, undef, undef, undef, undef, undef, undef, undef, undef, undef, undef, undef, undef, undef, undef, undef, undef, undef, undef, undef, undef, undef, undef, undef, undef, undef, undef, undef, undef, undef, undef, undef, undef, undef, undef, undef, undef, undef, undef, undef, undef, undef, undef, undef, undef, undef, undef, undef, undef, undef, undef, undef, undef, undef, undef, undef, undef, undef, undef, undef, undef, undef, undef, undef, undef, undef, undef, undef, undef, undef, undef, undef, undef, undef, undef, undef, undef, undef, undef, undef, undef, undef, undef, undef], defers := [] } V := by
        as_aux_lemma =>
          intro V v7 R d6 d8 d9 d10 d11 d12 d13 d14 d15 d16 d28 d29 d30 d31 d32 d33 d34 d35 d36 d37 d38 d39 d40 d41 d42 d43 d44 d45 d46 d47 d48 d49 d50 d51 d52 d53 d54 d55 d56 d57 d58 d59 d60 d61 d62 d63 d64 d65 d66 d67 d68 d69 d70 d71 d72 d73 d74 d75 d76 d77 d78 d79 d80 d81 d82 d83 d84 d85 d86 d87 d88 d89 d90 d91 d92 d93 d94 d95 d96 d97 d98 d99 d100 d101 d102 d103 d104 d105 d106 d107 d108 d109 d110 d111 d112 d113 d114 d115 d116 d117 d118 d119 d120 d121 d122 d123 d124 d125 d126 d127 d128 d129 d130 d131 d132 d133 d134 d135 d136 d137 d138 d139 d140 d141 d142 d143 d144 d145 d146 d147 d148 d149 d150 d151 d152 d153 d154 d155 d156 d157 d158 d159 d160 d161 d162 hV hO hR
          refine hJ2 _ _ ?_
          clear hJ2 hK16 HB4 HD4 HY4 HW4 HV HO HR l1 l2 l3 l4 hrC
          have HV := hide hV
          have HO := hide hO
          have HR := hide hR
          have hrM := range_kept (unhide HRM) hV (by simp)
          clear hO hR HC HP HPP HTT HTM HJC HY2 HM2 HCC HTA HTX HTM9
          go_wp2_with (refine wpList_load_mid rfl 30 _ rfl (w.heap.size + 1) 0 rfl MC _ hrM Tryd.underlying30 rfl (unhide HJM) ?_)
          refine (unhide HM V).mono ?_
          rintro e w7 ⟨a3, c3, rfl, hb3, ht3, g3⟩
          obtain ⟨W7, hW7, hB7, g3b⟩ : ∃ W, W = w7.alloc (.cells #[.int .i64 K3, .slice a3 m3 c3] 34) ∧ Blk W w7.heap.size 34 [.int .i64 K3, .slice a3 m3 c3] ∧ w7.grownBy W none := box_new w7 _ _
          have gT := tn g3 g3b
          have HB7 := hide hB7
          have HD7 := hide (hb3.kept g3b (fun _ e => by cases e))
          have HY7 : Hid (∀ ad, a3 = some ad → Typ W7 ad.block) := hide fun ad e => (ht3 ad e).kept g3b (by simp)
          replace HV := hide (tn (unhide HV) gT)
          replace HO := hide ((unhide HO).none gT)
          replace hrM := range_kept hrM gT (by simp)
          have HW7 := hide hW7
          clear hB7 hb3 ht3 hW7 g3 g3b gT hV
          go_upto_region 22 with (rw [← unhide HW7])
          rename_i J3 hJ3 K22 hK22
          have fin3 : ∀ (V : World) (v7 : Value) (R : List ObjR) (d6 d8 d9 d10 d11 d12 d13 d14 d15 d16 d17 d18 d19 d20 d28 d29 d30 d31 d32 d33 d34 d35 d36 d37 d38 d39 d40 d41 d42 d43 d44 d45 d46 d47 d48 d49 d50 d51 d52 d53 d54 d55 d56 d57 d58 d59 d60 d61 d62 d63 d64 d65 d66 d67 d68 d69 d70 d71 d72 d73 d74 d75 d76 d77 d78 d79 d80 d81 d82 d83 d84 d85 d86 d87 d88 d89 d90 d91 d92 d93 d94 d95 d96 d97 d98 d99 d100 d101 d102 d103 d104 d105 d106 d107 d108 d109 d110 d111 d112 d113 d114 d115 d116 d117 d118 d119 d120 d121 d122 d123 d124 d125 d126 d127 d128 d129 d130 d131 d132 d133 d134 d135 d136 d137 d138 d139 d140 d141 d142 d143 d144 d145 d146 d147 d148 d149 d150 d151 d152 d153 d154 d155 d156 d157 d158 d159 d160 d161 d162 d163 d164 d165 d166 d167 d168 d169 d170 d171 d172 d173 d174 d175 d176 d177 d178 d179 d180 d181 d182 d183 d184 d185 : Value), W0.grownBy V none → Objs V W0.heap.size v7 R → Okl 4 R → J3 { tmps := #[.slice ao n c, .agg CC.toArray, .agg MC.toArray, undef, .pointer (some ⟨w.heap.size, 0, none⟩), .pointer (some ⟨w.heap.size + 1, 0, none⟩), d6, v7, d8, d9, d10, d11, d12, d13, d14, d15, d16, d17, d18, d19, d20, undef, undef, undef, undef, undef, undef, undef, d28, d29, d30, d31, d32, d33, d34, d35, d36, d37, d38, d39, d40, d41, d42, d43, d44, d45, d46, d47, d48, d49, d50, d51, d52, d53, d54, d55, d56, d57, d58, d59, d60, d61, d62, d63, d64, d65, d66, d67, d68, d69, d70, d71, d72, d73, d74, d75, d76, d77, d78, d79, d80, d81, d82, d83, d84, d85, d86, d87, d88, d89, d90, d91, d92, d93, d94, d95, d96, d97, d98, d99, d100, d101, d102, d103, d104, d105, d106, d107, d108, d109, d110, d111, d112, d113, d114, d115, d116, d117, d118, d119, d120, d121, d122, d123, d124, d125, d126, d127, d128, d129, d130, d131, d132, d133, d134, d135, d136, d137, d138, d139, d140, d141, d142, d143, d144, d145, d146, d147, d148, d149, d150, d151, d152, d153, d154, d155, d156, d157, d158, d159, d160, d161, d162, d163, d164, d165, d166, d167, d168, d169, d170, d171, d172, d173, d174, d175, d176, d177, d178, d179, d180, d181, d182, d183, d184, d185, undef, undef, undef, undef, undef, undef, undef, undef, undef, undef, undef, undef, undef, undef, undef, undef, undef, undef, undef, undef, undef, undef, undef, undef, undef, undef, undef, undef, undef, undef, undef, undef, undef, undef, undef, undef, undef, undef, undef, undef, undef, undef, undef, undef, undef, undef, undef, undef, undef, undef, undef, undef, undef, undef, undef, undef, undef, undef, undef, undef, undef, undef, undef, undef, undef, undef, undef, undef, undef, undef, undef, undef, undef, undef, undef, undef, undef, undef, undef, undef, undef], defers := [] } V := by
            as_aux_lemma =>
              intro V v7 R d6 d8 d9 d10 d11 d12 d13 d14 d15 d16 d17 d18 d19 d20 d28 d29 d30 d31 d32 d33 d34 d35 d36 d37 d38 d39 d40 d41 d42 d43 d44 d45 d46 d47 d48 d49 d50 d51 d52 d53 d54 d55 d56 d57 d58 d59 d60 d61 d62 d63 d64 d65 d66 d67 d68 d69 d70 d71 d72 d73 d74 d75 d76 d77 d78 d79 d80 d81 d82 d83 d84 d85 d86 d87 d88 d89 d90 d91 d92 d93 d94 d95 d96 d97 d98 d99 d100 d101 d102 d103 d104 d105 d106 d107 d108 d109 d110 d111 d112 d113 d114 d115 d116 d117 d118 d119 d120 d121 d122 d123 d124 d125 d126 d127 d128 d129 d130 d131 d132 d133 d134 d135 d136 d137 d138 d139 d140 d141 d142 d143 d144 d145 d146 d147 d148 d149 d150 d151 d152 d153 d154 d155 d156 d157 d158 d159 d160 d161 d162 d163 d164 d165 d166 d167 d168 d169 d170 d171 d172 d173 d174 d175 d176 d177 d178 d179 d180 d181 d182 d183 d184 d185 hV hO hR
              refine hJ3 _ _ ?_
              clear hJ3 hK22 HB7 HD7 HY7 HW7 HV HO HR hrM
              obtain ⟨lo, lc, e7, hat⟩ := hO.open
              subst e7
              obtain ⟨rl, hrl⟩ : ∃ n, n = R.length := ⟨_, rfl⟩
              rw [← hrl]
              have HO := hide hO
              have HR := hide hR
              have HAT := hide hat
              have HRL := hide hrl
              have hr4 : rl ≤ 4 := by have := hR.2.2; omega
              have HV := hide hV
              have HTV := hide ((unhide HTB).kept0 hV)
              clear hO hR hat hrl hV HTB HM HMT HJM HMC HY3 HM3 HK3 HRM
              go_wp2_with fail
              go_loopw [21] (fun i wr => ∃ j : Nat, i = .int .i64 j ∧ j ≤ rl ∧ V.grownBy wr none) (fun i _ => rl - (intOf i).toNat)
              case atStart => exact ⟨0, rfl, Nat.zero_le _, gb_refl _ _⟩
              case round =>
                obtain ⟨j, rfl, hj, hg⟩ := hrel
                by_cases hlt : j < rl
                · have hl : j < R.length := by have := unhide HRL; omega
                  obtain ⟨b, o, e1, q0, q1⟩ := unhide HAT j hl
                  replace q0 := hg.cell q0 (by simp)
                  replace q1 := hg.cell q1 (by simp)
                  have hok := (unhide HR).2.1 R[j] (List.getElem_mem hl)
                  have hbt := ((unhide HO).bts R[j] (List.getElem_mem hl)).kept hg (fun _ e => by cases e)
                  obtain ⟨r, hr⟩ : ∃ r, r = R[j] := ⟨_, rfl⟩
                  have hkd : ∀ k, k < j → ∀ (hk : k < R.length), R[k].kind < r.kind := fun k hk hk2 => by rw [hr]; exact (unhide HR).lt hk hl
                  rw [← hr] at q0 q1 hok hbt
                  obtain ⟨kd, d, ra, rcp⟩ := r
                  simp only at q0 q1 hok hbt hkd
                  obtain ⟨ok1, ok2, ok3, ok4⟩ := hok
                  obtain ⟨md, hmd⟩ : ∃ n, n = d.length := ⟨_, rfl⟩
                  rw [← hmd] at q1
                  have hrd := rd_put kd (by omega) d ok4 ok3
                  have hrm := rd_more kd (by omega) d ok4
                  have hpl : (putL (kd : Int) d).length ≤ 20000 := by unfold putL; simp only [List.length_append, layS_len, List.length_singleton]; omega
                  obtain ⟨PL, hPL⟩ : ∃ P, P = putL (kd : Int) d := ⟨_, rfl⟩
                  rw [← hPL] at hrd hrm hpl
                  obtain ⟨np, hnp⟩ : ∃ n, n = PL.length := ⟨_, rfl⟩
                  have hnb : np ≤ 20000 := by omega
                  have HPUT : Hid (Calls Tryd.prog 14 #[.agg #[.int .i64 (kd : Int), .slice ra md rcp]] wr fun e w' => ∃ bo bc, e = .returned (.slice bo np bc) ∧ Bts w' bo bc PL ∧ wr.grownBy w' none) := hide (by
                    have z := oput_any wr (kd : Int) ra rcp d hbt (by omega)
                    rw [← hmd] at z
                    refine z.mono ?_
                    rintro e w' ⟨v, rfl, ⟨bo, bc, rfl, hb, _⟩, g⟩
                    rw [← hPL] at hb
                    exact ⟨bo, bc, by rw [← hPL, ← hnp], hb, g⟩)
                  have HRD : Hid (∀ U bo bc, Bts U bo bc PL → Calls Tryd.prog 15 #[.slice bo np bc] U fun e w' => ∃ ro rc, e = .returned (.tuple #[.agg #[.int .i64 (kd : Int), .slice ro md rc], .int .i64 0]) ∧ Bts w' ro rc d ∧ U.grownBy w' none) := hide fun U bo bc hb => by
                    have z := oread_any U bo bc PL hb (by omega)
                    rw [hrd, ← hnp] at z
                    refine z.mono ?_
                    rintro e w' ⟨v, y, kk, rfl, rfl, rfl, ⟨ro, rc, rfl, hb, _⟩, g⟩
                    exact ⟨ro, rc, by rw [hmd], hb, g⟩
                  have HRM9 : Hid (∀ U bo bc, Bts U bo bc (PL ++ [0]) → Calls Tryd.prog 15 #[.slice bo (np + 1) bc] U fun e w' => ∃ ro rc, e = .returned (.tuple #[.agg #[.int .i64 0, .slice ro 0 rc], .int .i64 11]) ∧ U.grownBy w' none) := hide fun U bo bc hb => by
                    have z := oread_any U bo bc (PL ++ [0]) hb (by simp; omega)
                    rw [hrm, List.length_append, ← hnp] at z
                    refine z.mono ?_
                    rintro e w' ⟨v, y, kk, rfl, rfl, rfl, ⟨ro, rc, rfl, hb, _⟩, g⟩
                    exact ⟨ro, rc, rfl, g⟩
                  have HBT := hide hbt
                  have HMD := hide hmd
                  have HPL := hide hPL
                  have HNP := hide hnp
                  have HK := hide hkd
                  have HC3 := hide ok3
                  have HC4 := hide ok4
                  have HGw := hide hg
                  subst e1
                  clear hbt hmd hPL hnp hkd hrd hrm hpl hr ok3 ok4 hl hg
                  go_wp2_with fail
                  refine (unhide HPUT).mono ?_
                  rintro e w1 ⟨bo, bc, rfl, hb1, g1⟩
                  replace q0 := g1.cell q0 (by simp)
                  replace q1 := g1.cell q1 (by simp)
                  have HG1 := hide g1
                  have HB1 := hide hb1
                  clear HPUT g1 hb1
                  go_wp2_with fail
                  refine (unhide HRD w1 bo bc (unhide HB1)).mono ?_
                  rintro e w2 ⟨ro, rc, rfl, hb2, g2⟩
                  obtain ⟨W2, hW2, hB2, g2b⟩ : ∃ W, W = w2.alloc (.cells #[.int .i64 (kd : Int), .slice ro md rc] 34) ∧ Blk W w2.heap.size 34 [.int .i64 (kd : Int), .slice ro md rc] ∧ w2.grownBy W none := box_new w2 _ _
                  have gT := tn g2 g2b
                  have HG2 := hide (tn (unhide HG1) gT)
                  have HB2 := hide hB2
                  have HR2 := hide (hb2.kept g2b (fun _ e => by cases e))
                  have HP2 := hide ((unhide HB1).kept gT (fun _ e => by cases e))
                  obtain ⟨Wb, hWb, hob, gb9⟩ := own_new W2 W2.heap.size (Nat.le_refl _)
                  have HOb := hide hob
                  have HPb := hide ((unhide HP2).kept gb9 (fun _ e => by cases e))
                  have HGb := hide gb9
                  have HW2 := hide hW2
                  have HWb := hide hWb
                  replace q0 := gT.cell q0 (by simp)
                  replace q1 := gT.cell q1 (by simp)
                  clear hW2 hB2 hb2 g2 g2b gT hWb hob gb9 HB1 HRD HG1
                  go_wp2_with (first
                    | rw [← unhide HW2]
                    | rw [← unhide HWb]
                    | rw [← unhide HW5]
                    | (refine wpList_append_btm rfl _ _ rfl W2.heap.size _ 0 [] rfl (unhide HOb) bo bc PL (unhide HPb) np (unhide HNP) rfl (by omega) (unhide HGb).size ?_
                       intro v4 w4 ho4 g4
                       rw [Nat.zero_add, List.nil_append] at ho4
                       obtain ⟨W5, hW5, hb5, g5⟩ := bts_b w4 0
                       have hW5b : W5 = w4.alloc (.cells #[.int .u8 0] 5) := hW5
                       have G4 := own_grow (unhide HGb) (unhide HOb) g4
                       have HG5 := hide (tn G4 g5)
                       have HO5 := hide (own_keep ho4 g5)
                       have HB5 := hide hb5
                       have HW5 := hide hW5b
                       clear ho4 g4 hW5 hb5 g5 hW5b G4 HOb HPb HGb)
                    | (refine wpList_append_btm rfl _ _ rfl W2.heap.size _ np (PL.map bv) rfl (unhide HO5) (some ⟨w4.heap.size, 0, none⟩) 1 [0] (unhide HB5) 1 rfl rfl (by omega) (unhide HG5).size ?_
                       intro v6 w6 ho6 g6
                       rw [← List.map_append] at ho6
                       obtain ⟨_, xo, xc, rfl, hb6, _⟩ := own_read ho6
                       have HG6 := hide (own_grow (unhide HG5) (unhide HO5) g6)
                       have HB6 := hide hb6
                       clear ho6 g6 hb6 HO5 HB5 HW5 HG5))
                  (try rw [← unhide HNP])
                  refine (unhide HRM9 w6 xo xc (unhide HB6)).mono ?_
                  rintro e w7 ⟨yo, yc, rfl, g7⟩
                  obtain ⟨W7, hW7, g7b⟩ : ∃ W, W = w7.alloc (.cells #[.int .i64 0, .slice yo 0 yc] 34) ∧ w7.grownBy W none := by
                    obtain ⟨W, h1, _, h2⟩ := box_new w7 34 [.int .i64 0, .slice yo 0 yc]
                    exact ⟨W, h1, h2⟩
                  have gT := tn (unhide HG6) (tn g7 g7b)
                  have HG7 := hide (tn (tn (unhide HGw) (unhide HG2)) gT)
                  have hB7 := (unhide HB2).kept gT (by simp)
                  have s0 := hB7.cell 0
                  have s1 := hB7.cell 1
                  simp only [List.getElem?_cons_zero, List.getElem?_cons_succ] at s0 s1
                  have hb7 := (unhide HR2).kept gT (fun _ e => by cases e)
                  have hp7 := (unhide HP2).kept gT (fun _ e => by cases e)
                  have hd7 := (unhide HBT).kept (tn (unhide HG2) gT) (fun _ e => by cases e)
                  replace q0 := gT.cell q0 (by simp)
                  replace q1 := gT.cell q1 (by simp)
                  have HW7 := hide hW7
                  obtain ⟨SS, hSS⟩ : ∃ S, S = shaL (putL (kd : Int) d) := ⟨_, rfl⟩
                  have hSl : SS.length = 32 := by rw [hSS]; exact shaL_length _
                  have CSM : Hid (∀ U, W7.grownBy U none → Calls Tryd.prog 16 #[.agg #[.int .i64 (kd : Int), .slice ro md rc], .agg #[.int .i64 (kd : Int), .slice ra md rcp]] U fun e w' => e = .returned (.bool true) ∧ U.grownBy w' none) := hide fun U gU => by
                    have z := same_any U (kd : Int) (kd : Int) ro ra rc rcp d d (hb7.kept gU (fun _ e => by cases e)) (hd7.kept gU (fun _ e => by cases e))
                    rwa [← unhide HMD, decide_eq_true ⟨rfl, rfl⟩] at z
                  have CCK : Hid (∀ U, W7.grownBy U none → Calls Tryd.prog 17 #[.agg #[.int .i64 (kd : Int), .slice ro md rc]] U fun e w' => e = .returned (.int .i64 0) ∧ U.grownBy w' none) := hide fun U gU => by
                    have z := check_any U (kd : Int) ro rc d (hb7.kept gU (fun _ e => by cases e))
                    rwa [← unhide HMD, unhide HC3] at z
                  have CI1 : Hid (∀ U, W7.grownBy U none → Calls Tryd.prog 18 #[.agg #[.int .i64 (kd : Int), .slice ro md rc]] U fun e w' => e = .returned (.agg (SS.map bv).toArray) ∧ U.grownBy w' none) := hide fun U gU => by
                    have z := oid_any U (kd : Int) ro rc d (hb7.kept gU (fun _ e => by cases e)) (by have := unhide HC4; omega) ((unhide HTV).kept0 (tn (unhide HG7) gU))
                    rwa [← unhide HMD, ← hSS] at z
                  have CI2 : Hid (∀ U, W7.grownBy U none → Calls Tryd.prog 18 #[.agg #[.int .i64 (kd : Int), .slice ra md rcp]] U fun e w' => e = .returned (.agg (SS.map bv).toArray) ∧ U.grownBy w' none) := hide fun U gU => by
                    have z := oid_any U (kd : Int) ra rcp d (hd7.kept gU (fun _ e => by cases e)) (by have := unhide HC4; omega) ((unhide HTV).kept0 (tn (unhide HG7) gU))
                    rwa [← unhide HMD, ← hSS] at z
                  have hqS : ∀ V : World, (binOp .neq 24 (.agg (SS.map bv).toArray) (.agg (SS.map bv).toArray)).run Tryd.prog V = .ok (.bool false) V := fun V => neq_idx V _ hSl
                  obtain ⟨TP, hTP⟩ : ∃ T, T = str PL := ⟨_, rfl⟩
                  have HCV : Hid (∀ U, W7.grownBy U none → (convert 32 9 (.slice bo np bc)).run Tryd.prog U = .ok (.string TP) U) := hide fun U gU => by
                    have z := conv_str (hp7.kept gU (fun _ e => by cases e))
                    rwa [← unhide HNP, ← hTP] at z
                  have HTP := hide hTP
                  have HD7 := hide hd7
                  have h0 : W7.grownBy W7.drew none := gb_drew (gb_refl _ _)
                  clear hW7 g7 g7b gT hB7 hb7 hp7 hd7 hSS hSl hTP HB6 HG6 HG2 HB2 HR2 HP2 HW2 HWb HRM9 HBT
                  go_upto_region 33 with (rw [← unhide HW7])
                  refine wp_region_noPanic ?_
                  refine wp_region_held_drew (S := fun V => W7.grownBy V none) (by kernel_rfl) h0 (fun _ => ?_)
                  obtain ⟨WD, hWD⟩ : ∃ V, V = W7.drew := ⟨_, rfl⟩
                  rw [← hWD]
                  rw [← hWD] at h0
                  clear hWD
                  refine wpAnyH_take (i := 0) (oi := { dst := some 211, op := Op.move (Operand.tmp 24), type := _, pos := _, after := _, guard := _ }) (v := .int .i64 0) rfl (by kernel_rfl) (by kernel_rfl) (by kernel_rfl) (fun _ _ _ h => h) (Or.inl ⟨by rfl, fun V (hV : W7.grownBy V none) => by go_simp⟩) h0 ?_
                  (try simp only [Act.put, List.setIfInBounds_toArray, List.set_cons_zero, List.set_cons_succ])
                  refine wpAnyH_take (i := 1) (oi := { dst := some 212, op := Op.binOp BinOp.neq 35 (Operand.tmp 211) (Operand.const (Value.int IntKind.i64 0)) 35, type := _, pos := _, after := _, guard := _ }) (v := .bool false) rfl (by kernel_rfl) (by kernel_rfl) (by kernel_rfl) (fun _ _ _ h => h) (Or.inl ⟨by rfl, fun V (hV : W7.grownBy V none) => by go_simp⟩) h0 ?_
                  (try simp only [Act.put, List.setIfInBounds_toArray, List.set_cons_zero, List.set_cons_succ])
                  refine wpAnyH_take (i := 2) (oi := { dst := some 213, op := Op.move (Operand.tmp 212), type := _, pos := _, after := _, guard := _ }) (v := .bool false) rfl (by kernel_rfl) (by kernel_rfl) (by kernel_rfl) (fun _ _ _ h => h) (Or.inl ⟨by rfl, fun V (hV : W7.grownBy V none) => by go_simp⟩) h0 ?_
                  (try simp only [Act.put, List.setIfInBounds_toArray, List.set_cons_zero, List.set_cons_succ])
                  refine wpAnyH_take (i := 3) (oi := { dst := some 214, op := Op.load 34 (Operand.tmp 23), type := _, pos := _, after := _, guard := _ }) (v := .agg #[.int .i64 (kd : Int), .slice ro md rc]) rfl (by kernel_rfl) (by kernel_rfl) (by kernel_rfl) (fun _ _ _ h => h) (Or.inl ⟨by rfl, fun V (hV : W7.grownBy V none) => by (have z0 := hV.cell s0 (by simp); have z1 := hV.cell s1 (by simp); go_simp)⟩) h0 ?_
                  (try simp only [Act.put, List.setIfInBounds_toArray, List.set_cons_zero, List.set_cons_succ])
                  refine wpAnyH_take (i := 4) (oi := { dst := some 215, op := Op.move (Operand.tmp 7), type := _, pos := _, after := _, guard := _ }) (v := .slice (some ⟨b, o, none⟩) rl lc) rfl (by kernel_rfl) (by kernel_rfl) (by kernel_rfl) (fun _ _ _ h => h) (Or.inl ⟨by rfl, fun V (hV : W7.grownBy V none) => by go_simp⟩) h0 ?_
                  (try simp only [Act.put, List.setIfInBounds_toArray, List.set_cons_zero, List.set_cons_succ])
                  refine wpAnyH_take (i := 5) (oi := { dst := some 216, op := Op.move (Operand.tmp 21), type := _, pos := _, after := _, guard := _ }) (v := .int .i64 (j : Int)) rfl (by kernel_rfl) (by kernel_rfl) (by kernel_rfl) (fun _ _ _ h => h) (Or.inl ⟨by rfl, fun V (hV : W7.grownBy V none) => by go_simp⟩) h0 ?_
                  (try simp only [Act.put, List.setIfInBounds_toArray, List.set_cons_zero, List.set_cons_succ])
                  refine wpAnyH_take (i := 6) (oi := { dst := some 217, op := Op.indexAddr 31 (Operand.tmp 215) (Operand.tmp 216), type := _, pos := _, after := _, guard := _ }) (v := .pointer (some ⟨b, o + j * 2, none⟩)) rfl (by kernel_rfl) (by kernel_rfl) (by kernel_rfl) (fun _ _ _ h => h) (Or.inl ⟨by rfl, fun V (hV : W7.grownBy V none) => by go_simp⟩) h0 ?_
                  (try simp only [Act.put, List.setIfInBounds_toArray, List.set_cons_zero, List.set_cons_succ])
                  refine wpAnyH_take (i := 7) (oi := { dst := some 218, op := Op.load 34 (Operand.tmp 217), type := _, pos := _, after := _, guard := _ }) (v := .agg #[.int .i64 (kd : Int), .slice ra md rcp]) rfl (by kernel_rfl) (by kernel_rfl) (by kernel_rfl) (fun _ _ _ h => h) (Or.inl ⟨by rfl, fun V (hV : W7.grownBy V none) => by (have z0 := hV.cell q0 (by simp); have z1 := hV.cell q1 (by simp); go_simp)⟩) h0 ?_
                  (try simp only [Act.put, List.setIfInBounds_toArray, List.set_cons_zero, List.set_cons_succ])
                  refine wpAnyH_ready (rs := [8]) (by kernel_rfl) (by simp) ?_
                  refine AllReadyH.cons (o := { dst := some 219, op := Op.call { callee := Callee.value (Operand.func 16), args := #[(Operand.tmp 214), (Operand.tmp 218)], argTypes := #[34, 34] }, type := _, pos := _, after := _, guard := _ }) rfl (fun K9 hK9 => ?_) AllReadyH.nil
                  go_simp
                  go_at_call 16
                  refine (unhide CSM WD h0).mono ?_
                  rintro e wc1 ⟨rfl, gc1⟩
                  go_wp2_with fail
                  have hh2 := tn h0 gc1
                  refine hK9.out _ _ hh2 (fun _ => ?_)
                  clear hK9 K9
                  (try simp only [Act.put, List.setIfInBounds_toArray, List.set_cons_zero, List.set_cons_succ])
                  refine wpAnyH_take (i := 9) (oi := { dst := some 220, op := Op.unOp UnOp.not 4 (Operand.tmp 219), type := _, pos := _, after := _, guard := _ }) (v := .bool false) rfl (by kernel_rfl) (by kernel_rfl) (by kernel_rfl) (fun _ _ _ h => h) (Or.inl ⟨by rfl, fun V (hV : W7.grownBy V none) => by go_simp⟩) hh2 ?_
                  (try simp only [Act.put, List.setIfInBounds_toArray, List.set_cons_zero, List.set_cons_succ])
                  refine wpAnyH_take (i := 10) (oi := { dst := some 221, op := Op.pick (Operand.tmp 213) (Operand.const (Value.bool true)) (Operand.tmp 220), type := _, pos := _, after := _, guard := _ }) (v := .bool false) rfl (by kernel_rfl) (by kernel_rfl) (by kernel_rfl) (fun _ _ _ h => h) (Or.inl ⟨by rfl, fun V (hV : W7.grownBy V none) => by go_simp⟩) hh2 ?_
                  (try simp only [Act.put, List.setIfInBounds_toArray, List.set_cons_zero, List.set_cons_succ])
                  refine wpAnyH_take (i := 11) (oi := { dst := some 222, op := Op.move (Operand.tmp 221), type := _, pos := _, after := _, guard := _ }) (v := .bool false) rfl (by kernel_rfl) (by kernel_rfl) (by kernel_rfl) (fun _ _ _ h => h) (Or.inl ⟨by rfl, fun V (hV : W7.grownBy V none) => by go_simp⟩) hh2 ?_
                  (try simp only [Act.put, List.setIfInBounds_toArray, List.set_cons_zero, List.set_cons_succ])
                  refine wpAnyH_take (i := 12) (oi := { dst := some 223, op := Op.load 34 (Operand.tmp 23), type := _, pos := _, after := _, guard := _ }) (v := .agg #[.int .i64 (kd : Int), .slice ro md rc]) rfl (by kernel_rfl) (by kernel_rfl) (by kernel_rfl) (fun _ _ _ h => h) (Or.inl ⟨by rfl, fun V (hV : W7.grownBy V none) => by (have z0 := hV.cell s0 (by simp); have z1 := hV.cell s1 (by simp); go_simp)⟩) hh2 ?_
                  (try simp only [Act.put, List.setIfInBounds_toArray, List.set_cons_zero, List.set_cons_succ])
                  refine wpAnyH_ready (rs := [13]) (by kernel_rfl) (by simp) ?_
                  refine AllReadyH.cons (o := { dst := some 224, op := Op.call { callee := Callee.value (Operand.func 17), args := #[(Operand.tmp 223)], argTypes := #[34] }, type := _, pos := _, after := _, guard := _ }) rfl (fun K9 hK9 => ?_) AllReadyH.nil
                  go_simp
                  go_at_call 17
                  refine (unhide CCK wc1 hh2).mono ?_
                  rintro e wc3 ⟨rfl, gc3⟩
                  go_wp2_with fail
                  have hh4 := tn hh2 gc3
                  refine hK9.out _ _ hh4 (fun _ => ?_)
                  clear hK9 K9
                  (try simp only [Act.put, List.setIfInBounds_toArray, List.set_cons_zero, List.set_cons_succ])
                  refine wpAnyH_take (i := 14) (oi := { dst := some 225, op := Op.binOp BinOp.neq 35 (Operand.tmp 224) (Operand.const (Value.int IntKind.i64 0)) 35, type := _, pos := _, after := _, guard := _ }) (v := .bool false) rfl (by kernel_rfl) (by kernel_rfl) (by kernel_rfl) (fun _ _ _ h => h) (Or.inl ⟨by rfl, fun V (hV : W7.grownBy V none) => by go_simp⟩) hh4 ?_
                  (try simp only [Act.put, List.setIfInBounds_toArray, List.set_cons_zero, List.set_cons_succ])
                  refine wpAnyH_take (i := 15) (oi := { dst := some 226, op := Op.pick (Operand.tmp 222) (Operand.const (Value.bool true)) (Operand.tmp 225), type := _, pos := _, after := _, guard := _ }) (v := .bool false) rfl (by kernel_rfl) (by kernel_rfl) (by kernel_rfl) (fun _ _ _ h => h) (Or.inl ⟨by rfl, fun V (hV : W7.grownBy V none) => by go_simp⟩) hh4 ?_
                  (try simp only [Act.put, List.setIfInBounds_toArray, List.set_cons_zero, List.set_cons_succ])
                  refine wpAnyH_take (i := 16) (oi := { dst := some 227, op := Op.move (Operand.tmp 226), type := _, pos := _, after := _, guard := _ }) (v := .bool false) rfl (by kernel_rfl) (by kernel_rfl) (by kernel_rfl) (fun _ _ _ h => h) (Or.inl ⟨by rfl, fun V (hV : W7.grownBy V none) => by go_simp⟩) hh4 ?_
                  (try simp only [Act.put, List.setIfInBounds_toArray, List.set_cons_zero, List.set_cons_succ])
                  refine wpAnyH_take (i := 17) (oi := { dst := some 228, op := Op.load 34 (Operand.tmp 23), type := _, pos := _, after := _, guard := _ }) (v := .agg #[.int .i64 (kd : Int), .slice ro md rc]) rfl (by kernel_rfl) (by kernel_rfl) (by kernel_rfl) (fun _ _ _ h => h) (Or.inl ⟨by rfl, fun V (hV : W7.grownBy V none) => by (have z0 := hV.cell s0 (by simp); have z1 := hV.cell s1 (by simp); go_simp)⟩) hh4 ?_
                  (try simp only [Act.put, List.setIfInBounds_toArray, List.set_cons_zero, List.set_cons_succ])
                  refine wpAnyH_take (i := 19) (oi := { dst := some 230, op := Op.move (Operand.tmp 7), type := _, pos := _, after := _, guard := _ }) (v := .slice (some ⟨b, o, none⟩) rl lc) rfl (by kernel_rfl) (by kernel_rfl) (by kernel_rfl) (fun _ _ _ h => h) (Or.inl ⟨by rfl, fun V (hV : W7.grownBy V none) => by go_simp⟩) hh4 ?_
                  (try simp only [Act.put, List.setIfInBounds_toArray, List.set_cons_zero, List.set_cons_succ])
                  refine wpAnyH_take (i := 20) (oi := { dst := some 231, op := Op.move (Operand.tmp 21), type := _, pos := _, after := _, guard := _ }) (v := .int .i64 (j : Int)) rfl (by kernel_rfl) (by kernel_rfl) (by kernel_rfl) (fun _ _ _ h => h) (Or.inl ⟨by rfl, fun V (hV : W7.grownBy V none) => by go_simp⟩) hh4 ?_
                  (try simp only [Act.put, List.setIfInBounds_toArray, List.set_cons_zero, List.set_cons_succ])
                  refine wpAnyH_take (i := 21) (oi := { dst := some 232, op := Op.indexAddr 31 (Operand.tmp 230) (Operand.tmp 231), type := _, pos := _, after := _, guard := _ }) (v := .pointer (some ⟨b, o + j * 2, none⟩)) rfl (by kernel_rfl) (by kernel_rfl) (by kernel_rfl) (fun _ _ _ h => h) (Or.inl ⟨by rfl, fun V (hV : W7.grownBy V none) => by go_simp⟩) hh4 ?_
                  (try simp only [Act.put, List.setIfInBounds_toArray, List.set_cons_zero, List.set_cons_succ])
                  refine wpAnyH_take (i := 22) (oi := { dst := some 233, op := Op.load 34 (Operand.tmp 232), type := _, pos := _, after := _, guard := _ }) (v := .agg #[.int .i64 (kd : Int), .slice ra md rcp]) rfl (by kernel_rfl) (by kernel_rfl) (by kernel_rfl) (fun _ _ _ h => h) (Or.inl ⟨by rfl, fun V (hV : W7.grownBy V none) => by (have z0 := hV.cell q0 (by simp); have z1 := hV.cell q1 (by simp); go_simp)⟩) hh4 ?_
                  (try simp only [Act.put, List.setIfInBounds_toArray, List.set_cons_zero, List.set_cons_succ])
                  refine wpAnyH_ready (rs := [18]) (by kernel_rfl) (by simp) ?_
                  refine AllReadyH.cons (o := { dst := some 229, op := Op.call { callee := Callee.value (Operand.func 18), args := #[(Operand.tmp 228)], argTypes := #[34] }, type := _, pos := _, after := _, guard := _ }) rfl (fun K9 hK9 => ?_) AllReadyH.nil
                  go_simp
                  go_at_call 18
                  refine (unhide CI1 wc3 hh4).mono ?_
                  rintro e wc5 ⟨rfl, gc5⟩
                  go_wp2_with fail
                  have hh6 := tn hh4 gc5
                  refine hK9.out _ _ hh6 (fun _ => ?_)
                  clear hK9 K9
                  (try simp only [Act.put, List.setIfInBounds_toArray, List.set_cons_zero, List.set_cons_succ])
                  refine wpAnyH_ready (rs := [23]) (by kernel_rfl) (by simp) ?_
                  refine AllReadyH.cons (o := { dst := some 234, op := Op.call { callee := Callee.value (Operand.func 18), args := #[(Operand.tmp 233)], argTypes := #[34] }, type := _, pos := _, after := _, guard := _ }) rfl (fun K9 hK9 => ?_) AllReadyH.nil
                  go_simp
                  go_at_call 18
                  refine (unhide CI2 wc5 hh6).mono ?_
                  rintro e wc7 ⟨rfl, gc7⟩
                  go_wp2_with fail
                  have hh8 := tn hh6 gc7
                  refine hK9.out _ _ hh8 (fun _ => ?_)
                  clear hK9 K9
                  (try simp only [Act.put, List.setIfInBounds_toArray, List.set_cons_zero, List.set_cons_succ])
                  refine wpAnyH_take (i := 24) (oi := { dst := some 235, op := Op.binOp BinOp.neq 24 (Operand.tmp 229) (Operand.tmp 234) 24, type := _, pos := _, after := _, guard := _ }) (v := .bool false) rfl (by kernel_rfl) (by kernel_rfl) (by kernel_rfl) (fun _ _ _ h => h) (yieldsIf_ne (by rfl) _ _ _ _ rfl _ _ _ rfl rfl guard_idx hqS) hh8 ?_
                  (try simp only [Act.put, List.setIfInBounds_toArray, List.set_cons_zero, List.set_cons_succ])
                  refine wpAnyH_take (i := 25) (oi := { dst := some 236, op := Op.pick (Operand.tmp 227) (Operand.const (Value.bool true)) (Operand.tmp 235), type := _, pos := _, after := _, guard := _ }) (v := .bool false) rfl (by kernel_rfl) (by kernel_rfl) (by kernel_rfl) (fun _ _ _ h => h) (Or.inl ⟨by rfl, fun V (hV : W7.grownBy V none) => by go_simp⟩) hh8 ?_
                  (try simp only [Act.put, List.setIfInBounds_toArray, List.set_cons_zero, List.set_cons_succ])
                  refine wpAnyH_take (i := 26) (oi := { dst := some 237, op := Op.move (Operand.tmp 236), type := _, pos := _, after := _, guard := _ }) (v := .bool false) rfl (by kernel_rfl) (by kernel_rfl) (by kernel_rfl) (fun _ _ _ h => h) (Or.inl ⟨by rfl, fun V (hV : W7.grownBy V none) => by go_simp⟩) hh8 ?_
                  (try simp only [Act.put, List.setIfInBounds_toArray, List.set_cons_zero, List.set_cons_succ])
                  refine wpAnyH_take (i := 27) (oi := { dst := some 238, op := Op.move (Operand.tmp 26), type := _, pos := _, after := _, guard := _ }) (v := .int .i64 11) rfl (by kernel_rfl) (by kernel_rfl) (by kernel_rfl) (fun _ _ _ h => h) (Or.inl ⟨by rfl, fun V (hV : W7.grownBy V none) => by go_simp⟩) hh8 ?_
                  (try simp only [Act.put, List.setIfInBounds_toArray, List.set_cons_zero, List.set_cons_succ])
                  refine wpAnyH_take (i := 28) (oi := { dst := some 239, op := Op.binOp BinOp.neq 35 (Operand.tmp 238) (Operand.const (Value.int IntKind.i64 11)) 35, type := _, pos := _, after := _, guard := _ }) (v := .bool false) rfl (by kernel_rfl) (by kernel_rfl) (by kernel_rfl) (fun _ _ _ h => h) (Or.inl ⟨by rfl, fun V (hV : W7.grownBy V none) => by go_simp⟩) hh8 ?_
                  (try simp only [Act.put, List.setIfInBounds_toArray, List.set_cons_zero, List.set_cons_succ])
                  refine wpAnyH_take (i := 29) (oi := { dst := some 240, op := Op.pick (Operand.tmp 237) (Operand.const (Value.bool true)) (Operand.tmp 239), type := _, pos := _, after := _, guard := _ }) (v := .bool false) rfl (by kernel_rfl) (by kernel_rfl) (by kernel_rfl) (fun _ _ _ h => h) (Or.inl ⟨by rfl, fun V (hV : W7.grownBy V none) => by go_simp⟩) hh8 ?_
                  (try simp only [Act.put, List.setIfInBounds_toArray, List.set_cons_zero, List.set_cons_succ])
                  refine wpAnyH_done (by kernel_rfl) ?_ _
                  refine NoPanic.normal ?_
                  obtain ⟨wE, hwE⟩ : ∃ V, V = wc7 := ⟨_, rfl⟩
                  have hE : W7.grownBy wE none := by rw [hwE]; exact hh8
                  rw [← hwE]
                  clear hwE
                  replace q0 := hE.cell q0 (by simp)
                  replace q1 := hE.cell q1 (by simp)
                  have HGE := hide hE
                  clear hE s0 s1 CSM CCK CI1 CI2 hqS h0
                  go_wp2_with fail
                  go_loopw [27] (fun i wq => ∃ k : Nat, i = .int .i64 k ∧ k ≤ j ∧ wE.grownBy wq none) (fun i _ => j - (intOf i).toNat)
                  case atStart => exact ⟨0, rfl, Nat.zero_le _, gb_refl _ _⟩
                  case round =>
                    obtain ⟨k, rfl, hk, hq⟩ := hrel
                    by_cases hkj : k < j
                    · have hl2 : k < R.length := by have := unhide HRL; omega
                      obtain ⟨b', o', eb, t0, t1⟩ := unhide HAT k hl2
                      injection eb with eb1
                      injection eb1 with eb2 eb3
                      subst eb2 eb3
                      have gV := tn (unhide HG7) (unhide HGE)
                      replace t0 := gV.cell t0 (by simp)
                      replace t1 := gV.cell t1 (by simp)
                      have hkd2 := unhide HK k hkj hl2
                      have ok2 := (unhide HR).2.1 R[k] (List.getElem_mem hl2)
                      have hbt2 := ((unhide HO).bts R[k] (List.getElem_mem hl2)).kept gV (fun _ e => by cases e)
                      obtain ⟨r, hr⟩ : ∃ r, r = R[k] := ⟨_, rfl⟩
                      rw [← hr] at t0 t1 hkd2 ok2 hbt2
                      obtain ⟨kd2, d2, ra2, rc2⟩ := r
                      simp only at t0 t1 hkd2 ok2 hbt2
                      obtain ⟨md2, hmd2⟩ : ∃ n, n = d2.length := ⟨_, rfl⟩
                      rw [← hmd2] at t1
                      obtain ⟨P2, hP2⟩ : ∃ P, P = putL (kd2 : Int) d2 := ⟨_, rfl⟩
                      have hne : P2 ≠ PL := by rw [hP2, unhide HPL]; exact put_ne kd2 kd (by omega) (by omega) (by omega) d2 d
                      obtain ⟨T2, hT2⟩ : ∃ T, T = str P2 := ⟨_, rfl⟩
                      obtain ⟨np2, hnp2⟩ : ∃ n, n = P2.length := ⟨_, rfl⟩
                      have hL1 : T2.toList = P2 := by rw [hT2, str_list]
                      have hL2 : TP.toList = PL := by rw [unhide HTP, str_list]
                      have hn1 : ¬ T2.toList = TP.toList := by rw [hL1, hL2]; exact hne
                      have hn2 : (P2 == PL) = false := by simpa using hne
                      have CS2 : Hid (∀ U, wE.grownBy U none → Calls Tryd.prog 16 #[.agg #[.int .i64 (kd2 : Int), .slice ra2 md2 rc2], .agg #[.int .i64 (kd : Int), .slice ra md rcp]] U fun e w' => e = .returned (.bool false) ∧ U.grownBy w' none) := hide fun U gU => by
                        have z := same_any U (kd2 : Int) (kd : Int) ra2 ra rc2 rcp d2 d (hbt2.kept gU (fun _ e => by cases e)) ((unhide HD7).kept (tn (unhide HGE) gU) (fun _ e => by cases e))
                        rwa [← unhide HMD, ← hmd2, decide_eq_false (fun h => by have := h.1; omega)] at z
                      have CP2 : Hid (∀ U, wE.grownBy U none → Calls Tryd.prog 14 #[.agg #[.int .i64 (kd2 : Int), .slice ra2 md2 rc2]] U fun e w' => ∃ bo bc, e = .returned (.slice bo np2 bc) ∧ Bts w' bo bc P2 ∧ U.grownBy w' none) := hide fun U gU => by
                        have z := oput_any U (kd2 : Int) ra2 rc2 d2 (hbt2.kept gU (fun _ e => by cases e)) (by have := ok2.2.2.2; omega)
                        rw [← hmd2] at z
                        refine z.mono ?_
                        rintro e w' ⟨v, rfl, ⟨bo, bc, rfl, hb, _⟩, g⟩
                        rw [← hP2] at hb
                        exact ⟨bo, bc, by rw [← hP2, ← hnp2], hb, g⟩
                      have hkr : k < rl := by omega
                      have HT2 := hide hT2
                      have HN2 := hide hnp2
                      have HQ := hide hq
                      have h0 : wE.grownBy wr.drew none := gb_drew hq
                      clear hbt2 hmd2 hP2 hne hT2 hnp2 gV hkd2 ok2 hr hl2 hq
                      go_upto_region 38 with fail
                      refine wp_region_noPanic ?_
                      refine wp_region_held_drew (S := fun V => wE.grownBy V none) (by kernel_rfl) h0 (fun _ => ?_)
                      obtain ⟨WD, hWD⟩ : ∃ V, V = wr.drew := ⟨_, rfl⟩
                      rw [← hWD]
                      rw [← hWD] at h0
                      clear hWD
                      refine wpAnyH_take (i := 0) (oi := { dst := some 246, op := Op.move (Operand.tmp 7), type := _, pos := _, after := _, guard := _ }) (v := .slice (some ⟨b, o, none⟩) rl lc) rfl (by kernel_rfl) (by kernel_rfl) (by kernel_rfl) (fun _ _ _ h => h) (Or.inl ⟨by rfl, fun V (hV : wE.grownBy V none) => by go_simp⟩) h0 ?_
                      (try simp only [Act.put, List.setIfInBounds_toArray, List.set_cons_zero, List.set_cons_succ])
                      refine wpAnyH_take (i := 1) (oi := { dst := some 247, op := Op.move (Operand.tmp 27), type := _, pos := _, after := _, guard := _ }) (v := .int .i64 (k : Int)) rfl (by kernel_rfl) (by kernel_rfl) (by kernel_rfl) (fun _ _ _ h => h) (Or.inl ⟨by rfl, fun V (hV : wE.grownBy V none) => by go_simp⟩) h0 ?_
                      (try simp only [Act.put, List.setIfInBounds_toArray, List.set_cons_zero, List.set_cons_succ])
                      refine wpAnyH_take (i := 4) (oi := { dst := some 250, op := Op.move (Operand.tmp 7), type := _, pos := _, after := _, guard := _ }) (v := .slice (some ⟨b, o, none⟩) rl lc) rfl (by kernel_rfl) (by kernel_rfl) (by kernel_rfl) (fun _ _ _ h => h) (Or.inl ⟨by rfl, fun V (hV : wE.grownBy V none) => by go_simp⟩) h0 ?_
                      (try simp only [Act.put, List.setIfInBounds_toArray, List.set_cons_zero, List.set_cons_succ])
                      refine wpAnyH_take (i := 5) (oi := { dst := some 251, op := Op.move (Operand.tmp 21), type := _, pos := _, after := _, guard := _ }) (v := .int .i64 (j : Int)) rfl (by kernel_rfl) (by kernel_rfl) (by kernel_rfl) (fun _ _ _ h => h) (Or.inl ⟨by rfl, fun V (hV : wE.grownBy V none) => by go_simp⟩) h0 ?_
                      (try simp only [Act.put, List.setIfInBounds_toArray, List.set_cons_zero, List.set_cons_succ])
                      refine wpAnyH_take (i := 2) (oi := { dst := some 248, op := Op.indexAddr 31 (Operand.tmp 246) (Operand.tmp 247), type := _, pos := _, after := _, guard := _ }) (v := .pointer (some ⟨b, o + k * 2, none⟩)) rfl (by kernel_rfl) (by kernel_rfl) (by kernel_rfl) (fun _ _ _ h => h) (Or.inl ⟨by rfl, fun V (hV : wE.grownBy V none) => by go_simp⟩) h0 ?_
                      (try simp only [Act.put, List.setIfInBounds_toArray, List.set_cons_zero, List.set_cons_succ])
                      refine wpAnyH_take (i := 6) (oi := { dst := some 252, op := Op.indexAddr 31 (Operand.tmp 250) (Operand.tmp 251), type := _, pos := _, after := _, guard := _ }) (v := .pointer (some ⟨b, o + j * 2, none⟩)) rfl (by kernel_rfl) (by kernel_rfl) (by kernel_rfl) (fun _ _ _ h => h) (Or.inl ⟨by rfl, fun V (hV : wE.grownBy V none) => by go_simp⟩) h0 ?_
                      (try simp only [Act.put, List.setIfInBounds_toArray, List.set_cons_zero, List.set_cons_succ])
                      refine wpAnyH_take (i := 3) (oi := { dst := some 249, op := Op.load 34 (Operand.tmp 248), type := _, pos := _, after := _, guard := _ }) (v := .agg #[.int .i64 (kd2 : Int), .slice ra2 md2 rc2]) rfl (by kernel_rfl) (by kernel_rfl) (by kernel_rfl) (fun _ _ _ h => h) (Or.inl ⟨by rfl, fun V (hV : wE.grownBy V none) => by (have z0 := hV.cell t0 (by simp); have z1 := hV.cell t1 (by simp); go_simp)⟩) h0 ?_
                      (try simp only [Act.put, List.setIfInBounds_toArray, List.set_cons_zero, List.set_cons_succ])
                      refine wpAnyH_take (i := 7) (oi := { dst := some 253, op := Op.load 34 (Operand.tmp 252), type := _, pos := _, after := _, guard := _ }) (v := .agg #[.int .i64 (kd : Int), .slice ra md rcp]) rfl (by kernel_rfl) (by kernel_rfl) (by kernel_rfl) (fun _ _ _ h => h) (Or.inl ⟨by rfl, fun V (hV : wE.grownBy V none) => by (have z0 := hV.cell q0 (by simp); have z1 := hV.cell q1 (by simp); go_simp)⟩) h0 ?_
                      (try simp only [Act.put, List.setIfInBounds_toArray, List.set_cons_zero, List.set_cons_succ])
                      refine wpAnyH_ready (rs := [8]) (by kernel_rfl) (by simp) ?_
                      refine AllReadyH.cons (o := { dst := some 254, op := Op.call { callee := Callee.value (Operand.func 16), args := #[(Operand.tmp 249), (Operand.tmp 253)], argTypes := #[34, 34] }, type := _, pos := _, after := _, guard := _ }) rfl (fun K9 hK9 => ?_) AllReadyH.nil
                      go_simp
                      go_at_call 16
                      refine (unhide CS2 WD h0).mono ?_
                      rintro e wc1 ⟨rfl, gc1⟩
                      go_wp2_with fail
                      have hh2 := tn h0 gc1
                      refine hK9.out _ _ hh2 (fun _ => ?_)
                      clear hK9 K9
                      (try simp only [Act.put, List.setIfInBounds_toArray, List.set_cons_zero, List.set_cons_succ])
                      refine wpAnyH_take (i := 9) (oi := { dst := some 255, op := Op.move (Operand.tmp 254), type := _, pos := _, after := _, guard := _ }) (v := .bool false) rfl (by kernel_rfl) (by kernel_rfl) (by kernel_rfl) (fun _ _ _ h => h) (Or.inl ⟨by rfl, fun V (hV : wE.grownBy V none) => by go_simp⟩) hh2 ?_
                      (try simp only [Act.put, List.setIfInBounds_toArray, List.set_cons_zero, List.set_cons_succ])
                      refine wpAnyH_take (i := 10) (oi := { dst := some 256, op := Op.move (Operand.tmp 7), type := _, pos := _, after := _, guard := _ }) (v := .slice (some ⟨b, o, none⟩) rl lc) rfl (by kernel_rfl) (by kernel_rfl) (by kernel_rfl) (fun _ _ _ h => h) (Or.inl ⟨by rfl, fun V (hV : wE.grownBy V none) => by go_simp⟩) hh2 ?_
                      (try simp only [Act.put, List.setIfInBounds_toArray, List.set_cons_zero, List.set_cons_succ])
                      refine wpAnyH_take (i := 11) (oi := { dst := some 257, op := Op.move (Operand.tmp 27), type := _, pos := _, after := _, guard := _ }) (v := .int .i64 (k : Int)) rfl (by kernel_rfl) (by kernel_rfl) (by kernel_rfl) (fun _ _ _ h => h) (Or.inl ⟨by rfl, fun V (hV : wE.grownBy V none) => by go_simp⟩) hh2 ?_
                      (try simp only [Act.put, List.setIfInBounds_toArray, List.set_cons_zero, List.set_cons_succ])
                      refine wpAnyH_take (i := 16) (oi := { dst := some 262, op := Op.move (Operand.tmp 22), type := _, pos := _, after := _, guard := _ }) (v := .slice bo np bc) rfl (by kernel_rfl) (by kernel_rfl) (by kernel_rfl) (fun _ _ _ h => h) (Or.inl ⟨by rfl, fun V (hV : wE.grownBy V none) => by go_simp⟩) hh2 ?_
                      (try simp only [Act.put, List.setIfInBounds_toArray, List.set_cons_zero, List.set_cons_succ])
                      refine wpAnyH_take (i := 12) (oi := { dst := some 258, op := Op.indexAddr 31 (Operand.tmp 256) (Operand.tmp 257), type := _, pos := _, after := _, guard := _ }) (v := .pointer (some ⟨b, o + k * 2, none⟩)) rfl (by kernel_rfl) (by kernel_rfl) (by kernel_rfl) (fun _ _ _ h => h) (Or.inl ⟨by rfl, fun V (hV : wE.grownBy V none) => by go_simp⟩) hh2 ?_
                      (try simp only [Act.put, List.setIfInBounds_toArray, List.set_cons_zero, List.set_cons_succ])
                      refine wpAnyH_take (i := 17) (oi := { dst := some 263, op := Op.convert 32 9 (Operand.tmp 262), type := _, pos := _, after := _, guard := _ }) (v := .string TP) rfl (by kernel_rfl) (by kernel_rfl) (by kernel_rfl) (fun _ _ _ h => h) (Or.inl ⟨by rfl, fun V (hV : wE.grownBy V none) => by (have z9 := unhide HCV V (tn (unhide HGE) hV); go_simp)⟩) hh2 ?_
                      (try simp only [Act.put, List.setIfInBounds_toArray, List.set_cons_zero, List.set_cons_succ])
                      refine wpAnyH_take (i := 13) (oi := { dst := some 259, op := Op.load 34 (Operand.tmp 258), type := _, pos := _, after := _, guard := _ }) (v := .agg #[.int .i64 (kd2 : Int), .slice ra2 md2 rc2]) rfl (by kernel_rfl) (by kernel_rfl) (by kernel_rfl) (fun _ _ _ h => h) (Or.inl ⟨by rfl, fun V (hV : wE.grownBy V none) => by (have z0 := hV.cell t0 (by simp); have z1 := hV.cell t1 (by simp); go_simp)⟩) hh2 ?_
                      (try simp only [Act.put, List.setIfInBounds_toArray, List.set_cons_zero, List.set_cons_succ])
                      refine wpAnyH_ready (rs := [14]) (by kernel_rfl) (by simp) ?_
                      refine AllReadyH.cons (o := { dst := some 260, op := Op.call { callee := Callee.value (Operand.func 14), args := #[(Operand.tmp 259)], argTypes := #[34] }, type := _, pos := _, after := _, guard := _ }) rfl (fun K9 hK9 => ?_) AllReadyH.nil
                      go_simp
                      go_at_call 14
                      refine (unhide CP2 wc1 hh2).mono ?_
                      rintro e wc3 ⟨bo2, bc2, rfl, hb9, gc3⟩
                      go_wp2_with fail
                      have hh4 := tn hh2 gc3
                      refine hK9.out _ _ hh4 (fun _ => ?_)
                      clear hK9 K9
                      (try simp only [Act.put, List.setIfInBounds_toArray, List.set_cons_zero, List.set_cons_succ])
                      refine wpAnyH_ready (rs := [15]) (by kernel_rfl) (by simp) ?_
                      refine AllReadyH.cons (o := { dst := some 261, op := Op.convert 32 9 (Operand.tmp 260), type := _, pos := _, after := _, guard := _ }) rfl (fun K9 hK9 => ?_) AllReadyH.nil
                      have z9 := conv_str (hb9.kept (gb_refl wc3 none) (fun _ e => by cases e))
                      rw [← unhide HN2, ← unhide HT2] at z9
                      go_simp
                      clear z9
                      refine hK9.out _ _ hh4 (fun _ => ?_)
                      clear hK9 K9
                      (try simp only [Act.put, List.setIfInBounds_toArray, List.set_cons_zero, List.set_cons_succ])
                      refine wpAnyH_take (i := 18) (oi := { dst := some 264, op := Op.binOp BinOp.eql 9 (Operand.tmp 261) (Operand.tmp 263) 9, type := _, pos := _, after := _, guard := _ }) (v := .bool false) rfl (by kernel_rfl) (by kernel_rfl) (by kernel_rfl) (fun _ _ _ h => h) (Or.inl ⟨by rfl, fun V (hV : wE.grownBy V none) => by go_simp⟩) hh4 ?_
                      (try simp only [Act.put, List.setIfInBounds_toArray, List.set_cons_zero, List.set_cons_succ])
                      refine wpAnyH_take (i := 19) (oi := { dst := some 265, op := Op.pick (Operand.tmp 255) (Operand.const (Value.bool true)) (Operand.tmp 264), type := _, pos := _, after := _, guard := _ }) (v := .bool false) rfl (by kernel_rfl) (by kernel_rfl) (by kernel_rfl) (fun _ _ _ h => h) (Or.inl ⟨by rfl, fun V (hV : wE.grownBy V none) => by go_simp⟩) hh4 ?_
                      (try simp only [Act.put, List.setIfInBounds_toArray, List.set_cons_zero, List.set_cons_succ])
                      refine wpAnyH_done (by kernel_rfl) ?_ _
                      refine NoPanic.normal ?_
                      obtain ⟨wF, hwF⟩ : ∃ V, V = wc3 := ⟨_, rfl⟩
                      have HQF : Hid (wE.grownBy wF none) := hide (by rw [hwF]; exact hh4)
                      rw [← hwF]
                      clear hwF
                      go_wp2_with fail
                      go_roundw
                      case rel => exact ⟨k + 1, by go_num, by omega, unhide HQF⟩
                      case measure => simp [intOf]; omega
                    · have HQ := hide (tn (tn (unhide HG7) (unhide HGE)) hq)
                      clear hq q0 q1
                      go_wp2_with fail
                      go_roundw
                      case rel => exact ⟨j + 1, by go_num, by omega, unhide HQ⟩
                      case measure => simp [intOf]; omega
                · have HQ := hide hg
                  clear hg
                  go_wp2_with fail
                  refine (oone_any wr).mono ?_
                  rintro e w9 ⟨rfl, g9⟩
                  go_wp2
                  go_ret
                  exact ⟨rfl, tn (tn (tn (unhide HG) (unhide HV)) (unhide HQ)) g9⟩
          have FIN3 := hide fin3
          clear fin3 hJ3 HTB
          by_cases hy3 : Y3 = 0
          · subst hy3
            have hK3 : K3 = 4 := by rw [unhide HK3]; rfl
            subst hK3
            obtain ⟨bk1, bk2⟩ := back_M (unhide HMT) (unhide HY3).symm
            have bk3 := ofMrk_le (unhide HY3).symm
            have p0 := (unhide HB7).cell 0
            have p1 := (unhide HB7).cell 1
            simp only [List.getElem?_cons_zero, List.getElem?_cons_succ] at p0 p1
            have HMO : Hid (Calls Tryd.prog 13 #[.agg #[.int .i64 4, .slice a3 m3 c3]] W7 fun e w' => e = .returned (.tuple #[.agg MC.toArray, .int .i64 0]) ∧ W7.grownBy w' none) := hide (by
              have z := markOf_any W7 4 a3 c3 D3 (unhide HD7) (by omega)
              rw [bk1, ← unhide HM3] at z
              refine z.mono ?_
              rintro e w' ⟨y, rfl, rfl, g⟩
              exact ⟨by rw [unhide HMC], g⟩)
            have HBK := hide bk2
            have HBL := hide bk3
            have hqM : ∀ V : World, (binOp .neq 30 (.agg MC.toArray) (.agg MC.toArray)).run Tryd.prog V = .ok (.bool false) V := fun V => by rw [unhide HMC]; exact neq_mrk V mk (unhide HMT)
            have hMl9 : MC.toArray.size = 34 := by rw [unhide HMC]; simpa using mkC_len mk (unhide HMT)
            obtain ⟨ZM, hZM, zvM⟩ : ∃ Z : Array Value, Z.size = 34 ∧ ∀ w, (zeroValue 30).run Tryd.prog w = .ok (.agg Z) w := ⟨_, rfl, fun w => (by kernel_rfl : (zeroValue 30).run Tryd.prog w = .ok (.agg (mkC zeroMk).toArray) w)⟩
            have HS3 : Hid (ZM.size = MC.toArray.size) := hide (by rw [hMl9, hZM])
            have HI3 : Hid ((Tryd.prog.info? 30).map (·.size) = some MC.toArray.size) := hide (by rw [hMl9]; exact info_mrk)
            have HO3 : Hid (MC.toArray.all (·.oneCell') = true) := hide (by rw [unhide HMC]; exact all_oneCell_toArray (mkC_one _))
            clear bk1 bk2 bk3 HK3 hMl9 hZM
            go_wp2_with fail
            refine (unhide HMO).mono ?_
            rintro e w8 ⟨rfl, g8⟩
            obtain ⟨W6, hW6, hB6, g6⟩ := row_new w8 30 ZM MC
            have hr1 := blk_all hB6
            have gT := tn g8 g6
            replace HV := hide (tn (unhide HV) gT)
            replace HO := hide ((unhide HO).none gT)
            replace hrM := range_kept hrM gT (by simp)
            replace p0 := gT.cell p0 (by simp)
            replace p1 := gT.cell p1 (by simp)
            have HD6 := hide ((unhide HD7).kept gT (fun _ e => by cases e))
            have HY6 : Hid (∀ ad, a3 = some ad → Typ W6 ad.block) := hide fun ad e => (unhide HY7 ad e).kept gT (by simp)
            have HW6 := hide hW6
            clear HMO hW6 hB6 g8 g6 gT HD7 HY7 HB7 HW7
            go_upto_region 24 with (refine wpList_store_row rfl 30 _ _ rfl w8.heap.size MC.toArray rfl rfl _ _ (heap_alloc_new _ _) (unhide HI3) (unhide HS3) (unhide HO3) ?_; rw [← unhide HW6])
            refine region_named fun O hO => ?_
            refine wpList_val (by rw [hO]; kernel_rfl) (.int .i64 0) (fun K9 hK9 => by go_simp; exact hK9) ?_
            (try simp only [Act.put, List.setIfInBounds_toArray, List.set_cons_zero, List.set_cons_succ])
            refine wpList_val (by rw [hO]; kernel_rfl) (.bool false) (fun K9 hK9 => by go_simp; exact hK9) ?_
            (try simp only [Act.put, List.setIfInBounds_toArray, List.set_cons_zero, List.set_cons_succ])
            refine wpList_val (by rw [hO]; kernel_rfl) (.bool false) (fun K9 hK9 => by go_simp; exact hK9) ?_
            (try simp only [Act.put, List.setIfInBounds_toArray, List.set_cons_zero, List.set_cons_succ])
            refine wpList_val (by rw [hO]; kernel_rfl) (.agg MC.toArray) (fun K9 hK9 => wp_load_mid _ _ rfl w8.heap.size 0 rfl MC _ hr1 Tryd.underlying30 rfl (unhide HJM) hK9) ?_
            (try simp only [Act.put, List.setIfInBounds_toArray, List.set_cons_zero, List.set_cons_succ])
            refine wpList_val (by rw [hO]; kernel_rfl) (.agg MC.toArray) (fun K9 hK9 => wp_load_mid _ _ rfl (w.heap.size + 1) 0 rfl MC _ hrM Tryd.underlying30 rfl (unhide HJM) hK9) ?_
            (try simp only [Act.put, List.setIfInBounds_toArray, List.set_cons_zero, List.set_cons_succ])
            refine wpList_val (by rw [hO]; kernel_rfl) (.bool false) (fun K9 hK9 => wp_ne _ _ _ _ rfl _ _ _ rfl rfl guard_mrk hqM hK9) ?_
            (try simp only [Act.put, List.setIfInBounds_toArray, List.set_cons_zero, List.set_cons_succ])
            refine wpList_val (by rw [hO]; kernel_rfl) (.bool false) (fun K9 hK9 => by go_simp; exact hK9) ?_
            (try simp only [Act.put, List.setIfInBounds_toArray, List.set_cons_zero, List.set_cons_succ])
            have HGQ := hide (gb_refl W6 none)
            obtain ⟨wr, hwr⟩ : ∃ V, V = W6 := ⟨_, rfl⟩
            have HGQ2 : Hid (W6.grownBy wr none) := by rw [hwr]; exact HGQ
            clear HGQ
            have HGQ := HGQ2
            clear HGQ2
            have p0b := p0
            rw [← hwr] at p0b ⊢
            clear p0b hwr
            replace p0 := (unhide HGQ).cell p0 (by simp)
            replace p1 := (unhide HGQ).cell p1 (by simp)
            have hbs := bs_obj 4 a3 m3 c3 wr
            obtain ⟨W5, hW5, hB5, g5⟩ : ∃ W, W = wr.alloc (.cells #[.int .i64 4, .slice a3 m3 c3] 34) ∧ Blk W wr.heap.size 34 [.int .i64 4, .slice a3 m3 c3] ∧ wr.grownBy W none := box_new wr _ _
            have gq := tn (unhide HGQ) g5
            have HV5 := hide (tn (unhide HV) gq)
            have HO5 := hide ((unhide HO).none gq)
            have HD5 := hide ((unhide HD6).kept gq (fun _ e => by cases e))
            have HY5 : Hid (∀ ad, a3 = some ad → Typ W5 ad.block) := hide fun ad e => (unhide HY6 ad e).kept gq (by simp)
            have HBS := hide hbs
            have HW5 := hide hW5
            have HB5 := hide hB5
            have hR9 : R.length ≤ 100000 := by have := (unhide HR).2.2; omega
            clear hbs hW5 hB5 g5 gq HGQ HD6 HY6
            go_wp2_with (first
              | (refine wpList_build1 rfl 31 _ rfl (.agg #[.int .i64 4, .slice a3 m3 c3]) _ rfl (unhide HBS) ?_; rw [← unhide HW5])
              | (refine wpList_append_obj rfl _ _ rfl W0.heap.size _ R.length _ rfl (unhide HO5).own wr.heap.size [.int .i64 4, .slice a3 m3 c3] (unhide HB5) rfl (by simp [Value.oneCell']) rfl hR9 (unhide HV5).size ?_; intro v6 w6 ho6 g6; have HO6 := hide ho6; have HG6 := hide g6; clear ho6 g6))
            have hO9 : Objs w6 W0.heap.size v6 (R ++ [⟨4, D3, a3, c3⟩]) := Objs.put (unhide HO5) ⟨4, D3, a3, c3⟩ (unhide HD5) (unhide HY5) (unhide HG6) (by
              have z := unhide HO6
              rw [unhide HM3] at z
              exact z)
            refine unhide FIN3 w6 v6 (R ++ [⟨4, D3, a3, c3⟩]) _ _ _ _ _ _ _ _ _ _ _ _ _ _ _ _ _ _ _ _ _ _ _ _ _ _ _ _ _ _ _ _ _ _ _ _ _ _ _ _ _ _ _ _ _ _ _ _ _ _ _ _ _ _ _ _ _ _ _ _ _ _ _ _ _ _ _ _ _ _ _ _ _ _ _ _ _ _ _ _ _ _ _ _ _ _ _ _ _ _ _ _ _ _ _ _ _ _ _ _ _ _ _ _ _ _ _ _ _ _ _ _ _ _ _ _ _ _ _ _ _ _ _ _ _ _ _ _ _ _ _ _ _ _ _ _ _ _ _ _ _ _ _ _ _ _ _ _ _ _ _ _ _ _ _ _ _ _ _ _ _ _ _ _ _ _ _ _ _ _ _ _ (gb_trans (unhide HV5) (unhide HG6) (fun x e => Or.inl ((unhide HO5).own.lt x e).1)) hO9 ?_
            exact (unhide HR).put ⟨4, D3, a3, c3⟩ rfl (unhide HBK) (unhide HBL)
          · have hy3b : (Y3 == 0) = false := by simpa using hy3
            go_wp2_with fail
            exact unhide FIN3 W7 _ R _ _ _ _ _ _ _ _ _ _ _ _ _ _ _ _ _ _ _ _ _ _ _ _ _ _ _ _ _ _ _ _ _ _ _ _ _ _ _ _ _ _ _ _ _ _ _ _ _ _ _ _ _ _ _ _ _ _ _ _ _ _ _ _ _ _ _ _ _ _ _ _ _ _ _ _ _ _ _ _ _ _ _ _ _ _ _ _ _ _ _ _ _ _ _ _ _ _ _ _ _ _ _ _ _ _ _ _ _ _ _ _ _ _ _ _ _ _ _ _ _ _ _ _ _ _ _ _ _ _ _ _ _ _ _ _ _ _ _ _ _ _ _ _ _ _ _ _ _ _ _ _ _ _ _ _ _ _ _ _ _ _ _ _ _ _ _ _ _ _ _ _ (unhide HV) (unhide HO) (unhide HR).up
      have FIN2 := hide fin2
      clear fin2 hJ2 HM HMT HM3 HY3 HK3 HTB HMC
      by_cases hy2 : Y2 = 0
      · subst hy2
        have hK2 : K2 = 3 := by rw [unhide HK2]; rfl
        subst hK2
        obtain ⟨bk1, bk2, bk4⟩ := back_C (unhide HTT) (unhide HP).ids (unhide HTM) (unhide HY2).symm
        have bk3 := ofChg_le (unhide HY2).symm
        have p0 := (unhide HB4).cell 0
        have p1 := (unhide HB4).cell 1
        simp only [List.getElem?_cons_zero, List.getElem?_cons_succ] at p0 p1
        have HCO : Hid (Calls Tryd.prog 8 #[.agg #[.int .i64 3, .slice a2 m2 c2]] W4 fun e w' => ∃ po pc, e = .returned (.tuple #[.agg (chC cg po pc).toArray, .int .i64 0]) ∧ Ids w' po pc cg.pars ∧ W4.grownBy w' none) := hide (by
          have z := changeOf_any W4 3 a2 c2 D2 (unhide HD4) (by omega)
          rw [bk1, ← unhide HM2] at z
          refine z.mono ?_
          rintro e w' ⟨po, pc, y, rfl, rfl, ho, g⟩
          obtain ⟨po9, pc9, e9, hI⟩ := Ids.own ho (unhide HP).ids
          injection e9 with e91 _ e92
          subst e91 e92
          exact ⟨po, pc, rfl, hI, g⟩)
        obtain ⟨lp, hlp⟩ : ∃ l, l = 1 + p := ⟨_, rfl⟩
        have HLK : Hid (∀ U, W4.grownBy U none → Calls Tryd.prog 11 #[.agg #[.int .i64 3, .slice a2 m2 c2]] U fun e w' => ∃ lo lc, e = .returned (.slice lo lp lc) ∧ U.grownBy w' none) := hide fun U gU => by
          have z := olinks_any U 3 a2 c2 D2 ((unhide HD4).kept gU (fun _ e => by cases e))
          rw [← unhide HM2, bk4, ← unhide HPP, ← hlp] at z
          refine z.mono ?_
          rintro e w' ⟨v, rfl, ho, g⟩
          rcases ho.2 with ⟨rfl, h2⟩ | ⟨g9, cap, cur, rfl, _⟩
          · exact ⟨none, 0, by rw [h2], g⟩
          · exact ⟨_, _, rfl, g⟩
        have y9 : (1 : Int) + (p : Int) = (lp : Int) := by omega
        have x9 : IntKind.i64.wrap (lp : Int) = (lp : Int) := by rw [IntKind.wrap_i64]; omega
        have HBK := hide bk2
        have HBL := hide bk3
        obtain ⟨ZC, hZC, zvC⟩ := zero_chg
        have HZC := hide hZC
        clear bk1 bk2 bk3 bk4 HK2 hlp hZC
        go_wp2_with fail
        refine (unhide HCO).mono ?_
        rintro e w5 ⟨po2, pc2, rfl, hI5, g5⟩
        obtain ⟨bt1, bt2, bt3, bt4⟩ := chC_at cg po2 pc2 (unhide HTT)
        have hC2l := chC_len cg po2 pc2 (unhide HTT)
        obtain ⟨C2, hC2⟩ : ∃ C, C = chC cg po2 pc2 := ⟨_, rfl⟩
        have HO2 : Hid (C2.toArray.all (·.oneCell') = true) := hide (by rw [hC2]; exact all_oneCell_toArray (chC_one _ _ _))
        rw [← hC2] at bt1 bt2 bt3 bt4 hC2l ⊢
        have HI2 : Hid ((Tryd.prog.info? 28).map (·.size) = some C2.toArray.size) := hide (by rw [show C2.toArray.size = 36 by simpa using hC2l]; exact info_chg)
        have HS2 : Hid (ZC.size = C2.toArray.size) := hide (by rw [show C2.toArray.size = 36 by simpa using hC2l]; exact unhide HZC)
        obtain ⟨W6, hW6, hB6, g6⟩ := row_new w5 28 ZC C2
        rw [← unhide HPP] at bt1
        rw [← unhide HTM9] at bt2
        rw [← unhide HTA] at bt3
        rw [← unhide HTX] at bt4
        have e1 : W6.cell? ⟨w5.heap.size, 32, none⟩ = some (.slice po2 p pc2) := by rw [hB6.cell 32, bt1]
        have e2 : W6.cell? ⟨w5.heap.size, 33, none⟩ = some (.int .u64 tm) := by rw [hB6.cell 33, bt2]
        have e3 : W6.cell? ⟨w5.heap.size, 34, none⟩ = some (.string TA) := by rw [hB6.cell 34, bt3]
        have e4 : W6.cell? ⟨w5.heap.size, 35, none⟩ = some (.string TX) := by rw [hB6.cell 35, bt4]
        have gT := tn g5 g6
        obtain ⟨TC, hTC⟩ : ∃ C, C = cg.tree.map bv := ⟨_, rfl⟩
        have hr1 : W6.rangeAt w5.heap.size 0 TC := by rw [hTC]; rw [hC2] at hB6; exact ch_tree (blk_all hB6)
        have hr2 : W6.rangeAt w.heap.size 0 TC := by rw [hTC]; rw [unhide HCC] at hrC; exact ch_tree (range_kept hrC gT (by simp))
        have hqI : ∀ V : World, (binOp .neq 24 (.agg TC.toArray) (.agg TC.toArray)).run Tryd.prog V = .ok (.bool false) V := fun V => by rw [hTC]; exact neq_idx V _ (unhide HTT)
        have HJI : Hid ((Tryd.prog.info? 24).map (·.size) = some TC.length) := hide (by rw [hTC, List.length_map, unhide HTT]; exact info_id)
        have HI6 := hide (hI5.none g6)
        have HI7 := hide (((unhide HP).none (unhide HG)).none (tn (unhide HV) gT))
        have HG46 := hide gT
        replace HV := hide (tn (unhide HV) gT)
        replace HO := hide ((unhide HO).none gT)
        replace l1 := gT.cell l1 (by simp)
        replace l2 := gT.cell l2 (by simp)
        replace l3 := gT.cell l3 (by simp)
        replace l4 := gT.cell l4 (by simp)
        replace p0 := gT.cell p0 (by simp)
        replace p1 := gT.cell p1 (by simp)
        have HD6 := hide ((unhide HD4).kept gT (fun _ e => by cases e))
        have HY6 : Hid (∀ ad, a2 = some ad → Typ W6 ad.block) := hide fun ad e => (unhide HY4 ad e).kept gT (by simp)
        have HW6 := hide hW6
        have h0 : W6.grownBy W6.drew none := gb_drew (gb_refl _ _)
        clear HCO bt1 bt2 bt3 bt4 hC2 hC2l hW6 hB6 g5 g6 gT hTC hI5 hrC HD4 HY4 HB4 HW4
        go_upto_region 18 with (refine wpList_store_row rfl 28 _ _ rfl w5.heap.size C2.toArray rfl rfl _ _ (heap_alloc_new _ _) (unhide HI2) (unhide HS2) (unhide HO2) ?_; rw [← unhide HW6])
        refine wp_region_noPanic ?_
        refine wp_region_held_drew (S := fun V => W6.grownBy V none) (by kernel_rfl) h0 (fun _ => ?_)
        obtain ⟨WD, hWD⟩ : ∃ V, V = W6.drew := ⟨_, rfl⟩
        rw [← hWD]
        rw [← hWD] at h0
        clear hWD
        refine wpAnyH_take (i := 0) (oi := { dst := some 109, op := Op.move (Operand.tmp 16), type := _, pos := _, after := _, guard := _ }) (v := .int .i64 0) rfl (by kernel_rfl) (by kernel_rfl) (by kernel_rfl) (fun _ _ _ h => h) (Or.inl ⟨by rfl, fun V (hV : W6.grownBy V none) => by go_simp⟩) h0 ?_
        (try simp only [Act.put, List.setIfInBounds_toArray, List.set_cons_zero, List.set_cons_succ])
        refine wpAnyH_take (i := 1) (oi := { dst := some 110, op := Op.binOp BinOp.neq 35 (Operand.tmp 109) (Operand.const (Value.int IntKind.i64 0)) 35, type := _, pos := _, after := _, guard := _ }) (v := .bool false) rfl (by kernel_rfl) (by kernel_rfl) (by kernel_rfl) (fun _ _ _ h => h) (Or.inl ⟨by rfl, fun V (hV : W6.grownBy V none) => by go_simp⟩) h0 ?_
        (try simp only [Act.put, List.setIfInBounds_toArray, List.set_cons_zero, List.set_cons_succ])
        refine wpAnyH_take (i := 2) (oi := { dst := some 111, op := Op.move (Operand.tmp 110), type := _, pos := _, after := _, guard := _ }) (v := .bool false) rfl (by kernel_rfl) (by kernel_rfl) (by kernel_rfl) (fun _ _ _ h => h) (Or.inl ⟨by rfl, fun V (hV : W6.grownBy V none) => by go_simp⟩) h0 ?_
        (try simp only [Act.put, List.setIfInBounds_toArray, List.set_cons_zero, List.set_cons_succ])
        refine wpAnyH_take (i := 3) (oi := { dst := some 112, op := Op.fieldAddr 28 (Operand.tmp 15) 0, type := _, pos := _, after := _, guard := _ }) (v := .pointer (some ⟨w5.heap.size, 0, none⟩)) rfl (by kernel_rfl) (by kernel_rfl) (by kernel_rfl) (fun _ _ _ h => h) (Or.inl ⟨by rfl, fun V (hV : W6.grownBy V none) => by go_simp⟩) h0 ?_
        (try simp only [Act.put, List.setIfInBounds_toArray, List.set_cons_zero, List.set_cons_succ])
        refine wpAnyH_take (i := 5) (oi := { dst := some 114, op := Op.fieldAddr 28 (Operand.tmp 4) 0, type := _, pos := _, after := _, guard := _ }) (v := .pointer (some ⟨w.heap.size, 0, none⟩)) rfl (by kernel_rfl) (by kernel_rfl) (by kernel_rfl) (fun _ _ _ h => h) (Or.inl ⟨by rfl, fun V (hV : W6.grownBy V none) => by go_simp⟩) h0 ?_
        (try simp only [Act.put, List.setIfInBounds_toArray, List.set_cons_zero, List.set_cons_succ])
        refine wpAnyH_take (i := 4) (oi := { dst := some 113, op := Op.load 24 (Operand.tmp 112), type := _, pos := _, after := _, guard := _ }) (v := .agg TC.toArray) rfl (by kernel_rfl) (by kernel_rfl) (by kernel_rfl) (fun _ _ _ h => h) (yieldsIf_load_mid (by rfl) _ _ rfl _ _ rfl TC _ (fun V hV => range_kept hr1 hV (by simp)) Tryd.underlying24 rfl (unhide HJI)) h0 ?_
        (try simp only [Act.put, List.setIfInBounds_toArray, List.set_cons_zero, List.set_cons_succ])
        refine wpAnyH_take (i := 6) (oi := { dst := some 115, op := Op.load 24 (Operand.tmp 114), type := _, pos := _, after := _, guard := _ }) (v := .agg TC.toArray) rfl (by kernel_rfl) (by kernel_rfl) (by kernel_rfl) (fun _ _ _ h => h) (yieldsIf_load_mid (by rfl) _ _ rfl _ _ rfl TC _ (fun V hV => range_kept hr2 hV (by simp)) Tryd.underlying24 rfl (unhide HJI)) h0 ?_
        (try simp only [Act.put, List.setIfInBounds_toArray, List.set_cons_zero, List.set_cons_succ])
        refine wpAnyH_take (i := 7) (oi := { dst := some 116, op := Op.binOp BinOp.neq 24 (Operand.tmp 113) (Operand.tmp 115) 24, type := _, pos := _, after := _, guard := _ }) (v := .bool false) rfl (by kernel_rfl) (by kernel_rfl) (by kernel_rfl) (fun _ _ _ h => h) (yieldsIf_ne (by rfl) _ _ _ _ rfl _ _ _ rfl rfl guard_idx hqI) h0 ?_
        (try simp only [Act.put, List.setIfInBounds_toArray, List.set_cons_zero, List.set_cons_succ])
        refine wpAnyH_take (i := 8) (oi := { dst := some 117, op := Op.pick (Operand.tmp 111) (Operand.const (Value.bool true)) (Operand.tmp 116), type := _, pos := _, after := _, guard := _ }) (v := .bool false) rfl (by kernel_rfl) (by kernel_rfl) (by kernel_rfl) (fun _ _ _ h => h) (Or.inl ⟨by rfl, fun V (hV : W6.grownBy V none) => by go_simp⟩) h0 ?_
        (try simp only [Act.put, List.setIfInBounds_toArray, List.set_cons_zero, List.set_cons_succ])
        refine wpAnyH_take (i := 9) (oi := { dst := some 118, op := Op.move (Operand.tmp 117), type := _, pos := _, after := _, guard := _ }) (v := .bool false) rfl (by kernel_rfl) (by kernel_rfl) (by kernel_rfl) (fun _ _ _ h => h) (Or.inl ⟨by rfl, fun V (hV : W6.grownBy V none) => by go_simp⟩) h0 ?_
        (try simp only [Act.put, List.setIfInBounds_toArray, List.set_cons_zero, List.set_cons_succ])
        refine wpAnyH_take (i := 10) (oi := { dst := some 119, op := Op.fieldAddr 28 (Operand.tmp 15) 2, type := _, pos := _, after := _, guard := _ }) (v := .pointer (some ⟨w5.heap.size, 33, none⟩)) rfl (by kernel_rfl) (by kernel_rfl) (by kernel_rfl) (fun _ _ _ h => h) (Or.inl ⟨by rfl, fun V (hV : W6.grownBy V none) => by go_simp⟩) h0 ?_
        (try simp only [Act.put, List.setIfInBounds_toArray, List.set_cons_zero, List.set_cons_succ])
        refine wpAnyH_take (i := 12) (oi := { dst := some 121, op := Op.fieldAddr 28 (Operand.tmp 4) 2, type := _, pos := _, after := _, guard := _ }) (v := .pointer (some ⟨w.heap.size, 33, none⟩)) rfl (by kernel_rfl) (by kernel_rfl) (by kernel_rfl) (fun _ _ _ h => h) (Or.inl ⟨by rfl, fun V (hV : W6.grownBy V none) => by go_simp⟩) h0 ?_
        (try simp only [Act.put, List.setIfInBounds_toArray, List.set_cons_zero, List.set_cons_succ])
        refine wpAnyH_take (i := 11) (oi := { dst := some 120, op := Op.load 26 (Operand.tmp 119), type := _, pos := _, after := _, guard := _ }) (v := .int .u64 tm) rfl (by kernel_rfl) (by kernel_rfl) (by kernel_rfl) (fun _ _ _ h => h) (Or.inl ⟨by rfl, fun V (hV : W6.grownBy V none) => by (have q9 := hV.cell e2 (by simp); go_simp)⟩) h0 ?_
        (try simp only [Act.put, List.setIfInBounds_toArray, List.set_cons_zero, List.set_cons_succ])
        refine wpAnyH_take (i := 13) (oi := { dst := some 122, op := Op.load 26 (Operand.tmp 121), type := _, pos := _, after := _, guard := _ }) (v := .int .u64 tm) rfl (by kernel_rfl) (by kernel_rfl) (by kernel_rfl) (fun _ _ _ h => h) (Or.inl ⟨by rfl, fun V (hV : W6.grownBy V none) => by (have q9 := hV.cell l2 (by simp); go_simp)⟩) h0 ?_
        (try simp only [Act.put, List.setIfInBounds_toArray, List.set_cons_zero, List.set_cons_succ])
        refine wpAnyH_take (i := 14) (oi := { dst := some 123, op := Op.binOp BinOp.neq 26 (Operand.tmp 120) (Operand.tmp 122) 26, type := _, pos := _, after := _, guard := _ }) (v := .bool false) rfl (by kernel_rfl) (by kernel_rfl) (by kernel_rfl) (fun _ _ _ h => h) (Or.inl ⟨by rfl, fun V (hV : W6.grownBy V none) => by go_simp⟩) h0 ?_
        (try simp only [Act.put, List.setIfInBounds_toArray, List.set_cons_zero, List.set_cons_succ])
        refine wpAnyH_take (i := 15) (oi := { dst := some 124, op := Op.pick (Operand.tmp 118) (Operand.const (Value.bool true)) (Operand.tmp 123), type := _, pos := _, after := _, guard := _ }) (v := .bool false) rfl (by kernel_rfl) (by kernel_rfl) (by kernel_rfl) (fun _ _ _ h => h) (Or.inl ⟨by rfl, fun V (hV : W6.grownBy V none) => by go_simp⟩) h0 ?_
        (try simp only [Act.put, List.setIfInBounds_toArray, List.set_cons_zero, List.set_cons_succ])
        refine wpAnyH_take (i := 16) (oi := { dst := some 125, op := Op.move (Operand.tmp 124), type := _, pos := _, after := _, guard := _ }) (v := .bool false) rfl (by kernel_rfl) (by kernel_rfl) (by kernel_rfl) (fun _ _ _ h => h) (Or.inl ⟨by rfl, fun V (hV : W6.grownBy V none) => by go_simp⟩) h0 ?_
        (try simp only [Act.put, List.setIfInBounds_toArray, List.set_cons_zero, List.set_cons_succ])
        refine wpAnyH_take (i := 17) (oi := { dst := some 126, op := Op.fieldAddr 28 (Operand.tmp 15) 3, type := _, pos := _, after := _, guard := _ }) (v := .pointer (some ⟨w5.heap.size, 34, none⟩)) rfl (by kernel_rfl) (by kernel_rfl) (by kernel_rfl) (fun _ _ _ h => h) (Or.inl ⟨by rfl, fun V (hV : W6.grownBy V none) => by go_simp⟩) h0 ?_
        (try simp only [Act.put, List.setIfInBounds_toArray, List.set_cons_zero, List.set_cons_succ])
        refine wpAnyH_take (i := 19) (oi := { dst := some 128, op := Op.fieldAddr 28 (Operand.tmp 4) 3, type := _, pos := _, after := _, guard := _ }) (v := .pointer (some ⟨w.heap.size, 34, none⟩)) rfl (by kernel_rfl) (by kernel_rfl) (by kernel_rfl) (fun _ _ _ h => h) (Or.inl ⟨by rfl, fun V (hV : W6.grownBy V none) => by go_simp⟩) h0 ?_
        (try simp only [Act.put, List.setIfInBounds_toArray, List.set_cons_zero, List.set_cons_succ])
        refine wpAnyH_take (i := 18) (oi := { dst := some 127, op := Op.load 9 (Operand.tmp 126), type := _, pos := _, after := _, guard := _ }) (v := .string TA) rfl (by kernel_rfl) (by kernel_rfl) (by kernel_rfl) (fun _ _ _ h => h) (Or.inl ⟨by rfl, fun V (hV : W6.grownBy V none) => by (have q9 := hV.cell e3 (by simp); go_simp)⟩) h0 ?_
        (try simp only [Act.put, List.setIfInBounds_toArray, List.set_cons_zero, List.set_cons_succ])
        refine wpAnyH_take (i := 20) (oi := { dst := some 129, op := Op.load 9 (Operand.tmp 128), type := _, pos := _, after := _, guard := _ }) (v := .string TA) rfl (by kernel_rfl) (by kernel_rfl) (by kernel_rfl) (fun _ _ _ h => h) (Or.inl ⟨by rfl, fun V (hV : W6.grownBy V none) => by (have q9 := hV.cell l3 (by simp); go_simp)⟩) h0 ?_
        (try simp only [Act.put, List.setIfInBounds_toArray, List.set_cons_zero, List.set_cons_succ])
        refine wpAnyH_take (i := 21) (oi := { dst := some 130, op := Op.binOp BinOp.neq 9 (Operand.tmp 127) (Operand.tmp 129) 9, type := _, pos := _, after := _, guard := _ }) (v := .bool false) rfl (by kernel_rfl) (by kernel_rfl) (by kernel_rfl) (fun _ _ _ h => h) (Or.inl ⟨by rfl, fun V (hV : W6.grownBy V none) => by go_simp⟩) h0 ?_
        (try simp only [Act.put, List.setIfInBounds_toArray, List.set_cons_zero, List.set_cons_succ])
        refine wpAnyH_take (i := 22) (oi := { dst := some 131, op := Op.pick (Operand.tmp 125) (Operand.const (Value.bool true)) (Operand.tmp 130), type := _, pos := _, after := _, guard := _ }) (v := .bool false) rfl (by kernel_rfl) (by kernel_rfl) (by kernel_rfl) (fun _ _ _ h => h) (Or.inl ⟨by rfl, fun V (hV : W6.grownBy V none) => by go_simp⟩) h0 ?_
        (try simp only [Act.put, List.setIfInBounds_toArray, List.set_cons_zero, List.set_cons_succ])
        refine wpAnyH_take (i := 23) (oi := { dst := some 132, op := Op.move (Operand.tmp 131), type := _, pos := _, after := _, guard := _ }) (v := .bool false) rfl (by kernel_rfl) (by kernel_rfl) (by kernel_rfl) (fun _ _ _ h => h) (Or.inl ⟨by rfl, fun V (hV : W6.grownBy V none) => by go_simp⟩) h0 ?_
        (try simp only [Act.put, List.setIfInBounds_toArray, List.set_cons_zero, List.set_cons_succ])
        refine wpAnyH_take (i := 24) (oi := { dst := some 133, op := Op.fieldAddr 28 (Operand.tmp 15) 4, type := _, pos := _, after := _, guard := _ }) (v := .pointer (some ⟨w5.heap.size, 35, none⟩)) rfl (by kernel_rfl) (by kernel_rfl) (by kernel_rfl) (fun _ _ _ h => h) (Or.inl ⟨by rfl, fun V (hV : W6.grownBy V none) => by go_simp⟩) h0 ?_
        (try simp only [Act.put, List.setIfInBounds_toArray, List.set_cons_zero, List.set_cons_succ])
        refine wpAnyH_take (i := 26) (oi := { dst := some 135, op := Op.fieldAddr 28 (Operand.tmp 4) 4, type := _, pos := _, after := _, guard := _ }) (v := .pointer (some ⟨w.heap.size, 35, none⟩)) rfl (by kernel_rfl) (by kernel_rfl) (by kernel_rfl) (fun _ _ _ h => h) (Or.inl ⟨by rfl, fun V (hV : W6.grownBy V none) => by go_simp⟩) h0 ?_
        (try simp only [Act.put, List.setIfInBounds_toArray, List.set_cons_zero, List.set_cons_succ])
        refine wpAnyH_take (i := 25) (oi := { dst := some 134, op := Op.load 9 (Operand.tmp 133), type := _, pos := _, after := _, guard := _ }) (v := .string TX) rfl (by kernel_rfl) (by kernel_rfl) (by kernel_rfl) (fun _ _ _ h => h) (Or.inl ⟨by rfl, fun V (hV : W6.grownBy V none) => by (have q9 := hV.cell e4 (by simp); go_simp)⟩) h0 ?_
        (try simp only [Act.put, List.setIfInBounds_toArray, List.set_cons_zero, List.set_cons_succ])
        refine wpAnyH_take (i := 27) (oi := { dst := some 136, op := Op.load 9 (Operand.tmp 135), type := _, pos := _, after := _, guard := _ }) (v := .string TX) rfl (by kernel_rfl) (by kernel_rfl) (by kernel_rfl) (fun _ _ _ h => h) (Or.inl ⟨by rfl, fun V (hV : W6.grownBy V none) => by (have q9 := hV.cell l4 (by simp); go_simp)⟩) h0 ?_
        (try simp only [Act.put, List.setIfInBounds_toArray, List.set_cons_zero, List.set_cons_succ])
        refine wpAnyH_take (i := 28) (oi := { dst := some 137, op := Op.binOp BinOp.neq 9 (Operand.tmp 134) (Operand.tmp 136) 9, type := _, pos := _, after := _, guard := _ }) (v := .bool false) rfl (by kernel_rfl) (by kernel_rfl) (by kernel_rfl) (fun _ _ _ h => h) (Or.inl ⟨by rfl, fun V (hV : W6.grownBy V none) => by go_simp⟩) h0 ?_
        (try simp only [Act.put, List.setIfInBounds_toArray, List.set_cons_zero, List.set_cons_succ])
        refine wpAnyH_take (i := 29) (oi := { dst := some 138, op := Op.pick (Operand.tmp 132) (Operand.const (Value.bool true)) (Operand.tmp 137), type := _, pos := _, after := _, guard := _ }) (v := .bool false) rfl (by kernel_rfl) (by kernel_rfl) (by kernel_rfl) (fun _ _ _ h => h) (Or.inl ⟨by rfl, fun V (hV : W6.grownBy V none) => by go_simp⟩) h0 ?_
        (try simp only [Act.put, List.setIfInBounds_toArray, List.set_cons_zero, List.set_cons_succ])
        refine wpAnyH_take (i := 30) (oi := { dst := some 139, op := Op.move (Operand.tmp 138), type := _, pos := _, after := _, guard := _ }) (v := .bool false) rfl (by kernel_rfl) (by kernel_rfl) (by kernel_rfl) (fun _ _ _ h => h) (Or.inl ⟨by rfl, fun V (hV : W6.grownBy V none) => by go_simp⟩) h0 ?_
        (try simp only [Act.put, List.setIfInBounds_toArray, List.set_cons_zero, List.set_cons_succ])
        refine wpAnyH_take (i := 31) (oi := { dst := some 140, op := Op.fieldAddr 28 (Operand.tmp 15) 1, type := _, pos := _, after := _, guard := _ }) (v := .pointer (some ⟨w5.heap.size, 32, none⟩)) rfl (by kernel_rfl) (by kernel_rfl) (by kernel_rfl) (fun _ _ _ h => h) (Or.inl ⟨by rfl, fun V (hV : W6.grownBy V none) => by go_simp⟩) h0 ?_
        (try simp only [Act.put, List.setIfInBounds_toArray, List.set_cons_zero, List.set_cons_succ])
        refine wpAnyH_take (i := 34) (oi := { dst := some 143, op := Op.fieldAddr 28 (Operand.tmp 4) 1, type := _, pos := _, after := _, guard := _ }) (v := .pointer (some ⟨w.heap.size, 32, none⟩)) rfl (by kernel_rfl) (by kernel_rfl) (by kernel_rfl) (fun _ _ _ h => h) (Or.inl ⟨by rfl, fun V (hV : W6.grownBy V none) => by go_simp⟩) h0 ?_
        (try simp only [Act.put, List.setIfInBounds_toArray, List.set_cons_zero, List.set_cons_succ])
        refine wpAnyH_take (i := 32) (oi := { dst := some 141, op := Op.load 25 (Operand.tmp 140), type := _, pos := _, after := _, guard := _ }) (v := .slice po2 p pc2) rfl (by kernel_rfl) (by kernel_rfl) (by kernel_rfl) (fun _ _ _ h => h) (Or.inl ⟨by rfl, fun V (hV : W6.grownBy V none) => by (have q9 := hV.cell e1 (by simp); go_simp)⟩) h0 ?_
        (try simp only [Act.put, List.setIfInBounds_toArray, List.set_cons_zero, List.set_cons_succ])
        refine wpAnyH_take (i := 35) (oi := { dst := some 144, op := Op.load 25 (Operand.tmp 143), type := _, pos := _, after := _, guard := _ }) (v := .slice po p pc) rfl (by kernel_rfl) (by kernel_rfl) (by kernel_rfl) (fun _ _ _ h => h) (Or.inl ⟨by rfl, fun V (hV : W6.grownBy V none) => by (have q9 := hV.cell l1 (by simp); go_simp)⟩) h0 ?_
        (try simp only [Act.put, List.setIfInBounds_toArray, List.set_cons_zero, List.set_cons_succ])
        refine wpAnyH_ready (rs := [33]) (by kernel_rfl) (by simp) ?_
        refine AllReadyH.cons (o := { dst := some 142, op := Op.call { callee := Callee.value (Operand.func 10), args := #[(Operand.tmp 141)], argTypes := #[25] }, type := _, pos := _, after := _, guard := _ }) rfl (fun K9 hK9 => ?_) AllReadyH.nil
        go_simp
        go_at_call 10
        have ci1 : Calls Tryd.prog 10 #[.slice po2 p pc2] WD fun e w' => ∃ v, e = .returned v ∧ Stg w' WD.heap.size v cg.pars ∧ WD.grownBy w' none := by
          rw [unhide HPP]; exact lids_any _ _ _ _ ((unhide HI6).none h0) (by have := unhide HPP; omega)
        refine ci1.mono ?_
        rintro e wc1 ⟨v1, rfl, ho1, gc1⟩
        obtain ⟨so1, sc1, se1, hS1⟩ := ho1.open
        rw [← unhide HPP] at se1
        subst se1
        go_wp2_with fail
        have hh2 := tn h0 gc1
        refine hK9.out _ _ hh2 (fun _ => ?_)
        clear hK9 K9
        (try simp only [Act.put, List.setIfInBounds_toArray, List.set_cons_zero, List.set_cons_succ])
        refine wpAnyH_ready (rs := [36]) (by kernel_rfl) (by simp) ?_
        refine AllReadyH.cons (o := { dst := some 145, op := Op.call { callee := Callee.value (Operand.func 10), args := #[(Operand.tmp 144)], argTypes := #[25] }, type := _, pos := _, after := _, guard := _ }) rfl (fun K9 hK9 => ?_) AllReadyH.nil
        go_simp
        go_at_call 10
        have ci3 : Calls Tryd.prog 10 #[.slice po p pc] wc1 fun e w' => ∃ v, e = .returned v ∧ Stg w' wc1.heap.size v cg.pars ∧ wc1.grownBy w' none := by
          rw [unhide HPP]; exact lids_any _ _ _ _ ((unhide HI7).none hh2) (by have := unhide HPP; omega)
        refine ci3.mono ?_
        rintro e wc3 ⟨v3, rfl, ho3, gc3⟩
        obtain ⟨so3, sc3, se3, hS3⟩ := ho3.open
        rw [← unhide HPP] at se3
        subst se3
        go_wp2_with fail
        have gg4wc1 := tn ((gb_refl wc1 none)) gc3
        have hh4 := tn hh2 gc3
        refine hK9.out _ _ hh4 (fun _ => ?_)
        clear hK9 K9
        (try simp only [Act.put, List.setIfInBounds_toArray, List.set_cons_zero, List.set_cons_succ])
        refine wpAnyH_ready (rs := [37]) (by kernel_rfl) (by simp) ?_
        refine AllReadyH.cons (o := { dst := some 146, op := Op.call { callee := Callee.value (Operand.func 9), args := #[(Operand.tmp 142), (Operand.tmp 145)], argTypes := #[46, 46] }, type := _, pos := _, after := _, guard := _ }) rfl (fun K9 hK9 => ?_) AllReadyH.nil
        go_simp
        go_at_call 9
        have ci5 : Calls Tryd.prog 9 #[.slice so1 p sc1, .slice so3 p sc3] wc3 fun e w' => e = .returned (.bool true) ∧ wc3.grownBy w' none := by
          have z := lsame_any wc3 _ _ _ _ _ _ cg.pars cg.pars (hS1.kept gg4wc1) (hS3.kept (gb_refl wc3 none)) (by have := unhide HPP; omega)
          rw [decide_eq_true rfl] at z
          rw [unhide HPP]; exact z
        refine ci5.mono ?_
        rintro e wc5 ⟨rfl, gc5⟩
        go_wp2_with fail
        have gg6wc1 := tn (gg4wc1) gc5
        have gg6wc3 := tn ((gb_refl wc3 none)) gc5
        have hh6 := tn hh4 gc5
        refine hK9.out _ _ hh6 (fun _ => ?_)
        clear hK9 K9
        (try simp only [Act.put, List.setIfInBounds_toArray, List.set_cons_zero, List.set_cons_succ])
        refine wpAnyH_take (i := 38) (oi := { dst := some 147, op := Op.unOp UnOp.not 4 (Operand.tmp 146), type := _, pos := _, after := _, guard := _ }) (v := .bool false) rfl (by kernel_rfl) (by kernel_rfl) (by kernel_rfl) (fun _ _ _ h => h) (Or.inl ⟨by rfl, fun V (hV : W6.grownBy V none) => by go_simp⟩) hh6 ?_
        (try simp only [Act.put, List.setIfInBounds_toArray, List.set_cons_zero, List.set_cons_succ])
        refine wpAnyH_take (i := 39) (oi := { dst := some 148, op := Op.pick (Operand.tmp 139) (Operand.const (Value.bool true)) (Operand.tmp 147), type := _, pos := _, after := _, guard := _ }) (v := .bool false) rfl (by kernel_rfl) (by kernel_rfl) (by kernel_rfl) (fun _ _ _ h => h) (Or.inl ⟨by rfl, fun V (hV : W6.grownBy V none) => by go_simp⟩) hh6 ?_
        (try simp only [Act.put, List.setIfInBounds_toArray, List.set_cons_zero, List.set_cons_succ])
        refine wpAnyH_take (i := 40) (oi := { dst := some 149, op := Op.move (Operand.tmp 148), type := _, pos := _, after := _, guard := _ }) (v := .bool false) rfl (by kernel_rfl) (by kernel_rfl) (by kernel_rfl) (fun _ _ _ h => h) (Or.inl ⟨by rfl, fun V (hV : W6.grownBy V none) => by go_simp⟩) hh6 ?_
        (try simp only [Act.put, List.setIfInBounds_toArray, List.set_cons_zero, List.set_cons_succ])
        refine wpAnyH_take (i := 41) (oi := { dst := some 150, op := Op.load 34 (Operand.tmp 13), type := _, pos := _, after := _, guard := _ }) (v := .agg #[.int .i64 3, .slice a2 m2 c2]) rfl (by kernel_rfl) (by kernel_rfl) (by kernel_rfl) (fun _ _ _ h => h) (Or.inl ⟨by rfl, fun V (hV : W6.grownBy V none) => by (have z0 := hV.cell p0 (by simp); have z1 := hV.cell p1 (by simp); go_simp)⟩) hh6 ?_
        (try simp only [Act.put, List.setIfInBounds_toArray, List.set_cons_zero, List.set_cons_succ])
        refine wpAnyH_take (i := 44) (oi := { dst := some 153, op := Op.fieldAddr 28 (Operand.tmp 4) 1, type := _, pos := _, after := _, guard := _ }) (v := .pointer (some ⟨w.heap.size, 32, none⟩)) rfl (by kernel_rfl) (by kernel_rfl) (by kernel_rfl) (fun _ _ _ h => h) (Or.inl ⟨by rfl, fun V (hV : W6.grownBy V none) => by go_simp⟩) hh6 ?_
        (try simp only [Act.put, List.setIfInBounds_toArray, List.set_cons_zero, List.set_cons_succ])
        refine wpAnyH_take (i := 45) (oi := { dst := some 154, op := Op.load 25 (Operand.tmp 153), type := _, pos := _, after := _, guard := _ }) (v := .slice po p pc) rfl (by kernel_rfl) (by kernel_rfl) (by kernel_rfl) (fun _ _ _ h => h) (Or.inl ⟨by rfl, fun V (hV : W6.grownBy V none) => by (have q9 := hV.cell l1 (by simp); go_simp)⟩) hh6 ?_
        (try simp only [Act.put, List.setIfInBounds_toArray, List.set_cons_zero, List.set_cons_succ])
        refine wpAnyH_take (i := 46) (oi := { dst := some 155, op := Op.call { callee := Callee.builtin Builtin.len, args := #[(Operand.tmp 154)], argTypes := #[25] }, type := _, pos := _, after := _, guard := _ }) (v := .int .i64 (p : Int)) rfl (by kernel_rfl) (by kernel_rfl) (by kernel_rfl) (fun _ _ _ h => h) (Or.inl ⟨by rfl, fun V (hV : W6.grownBy V none) => by go_simp⟩) hh6 ?_
        (try simp only [Act.put, List.setIfInBounds_toArray, List.set_cons_zero, List.set_cons_succ])
        refine wpAnyH_take (i := 47) (oi := { dst := some 156, op := Op.binOp BinOp.add 3 (Operand.const (Value.int IntKind.i64 1)) (Operand.tmp 155) 3, type := _, pos := _, after := _, guard := _ }) (v := .int .i64 (lp : Int)) rfl (by kernel_rfl) (by kernel_rfl) (by kernel_rfl) (fun _ _ _ h => h) (Or.inl ⟨by rfl, fun V (hV : W6.grownBy V none) => by go_simp⟩) hh6 ?_
        (try simp only [Act.put, List.setIfInBounds_toArray, List.set_cons_zero, List.set_cons_succ])
        refine wpAnyH_ready (rs := [42]) (by kernel_rfl) (by simp) ?_
        refine AllReadyH.cons (o := { dst := some 151, op := Op.call { callee := Callee.value (Operand.func 11), args := #[(Operand.tmp 150)], argTypes := #[34] }, type := _, pos := _, after := _, guard := _ }) rfl (fun K9 hK9 => ?_) AllReadyH.nil
        go_simp
        go_at_call 11
        refine (unhide HLK wc5 (tn (unhide HG46) hh6)).mono ?_
        rintro e wc7 ⟨lo9, lc9, rfl, gc7⟩
        go_wp2_with fail
        have gg8wc1 := tn (gg6wc1) gc7
        have gg8wc3 := tn (gg6wc3) gc7
        have gg8wc5 := tn ((gb_refl wc5 none)) gc7
        have hh8 := tn hh6 gc7
        refine hK9.out _ _ hh8 (fun _ => ?_)
        clear hK9 K9
        (try simp only [Act.put, List.setIfInBounds_toArray, List.set_cons_zero, List.set_cons_succ])
        refine wpAnyH_take (i := 43) (oi := { dst := some 152, op := Op.call { callee := Callee.builtin Builtin.len, args := #[(Operand.tmp 151)], argTypes := #[25] }, type := _, pos := _, after := _, guard := _ }) (v := .int .i64 (lp : Int)) rfl (by kernel_rfl) (by kernel_rfl) (by kernel_rfl) (fun _ _ _ h => h) (Or.inl ⟨by rfl, fun V (hV : W6.grownBy V none) => by go_simp⟩) hh8 ?_
        (try simp only [Act.put, List.setIfInBounds_toArray, List.set_cons_zero, List.set_cons_succ])
        refine wpAnyH_take (i := 48) (oi := { dst := some 157, op := Op.binOp BinOp.neq 3 (Operand.tmp 152) (Operand.tmp 156) 3, type := _, pos := _, after := _, guard := _ }) (v := .bool false) rfl (by kernel_rfl) (by kernel_rfl) (by kernel_rfl) (fun _ _ _ h => h) (Or.inl ⟨by rfl, fun V (hV : W6.grownBy V none) => by go_simp⟩) hh8 ?_
        (try simp only [Act.put, List.setIfInBounds_toArray, List.set_cons_zero, List.set_cons_succ])
        refine wpAnyH_take (i := 49) (oi := { dst := some 158, op := Op.pick (Operand.tmp 149) (Operand.const (Value.bool true)) (Operand.tmp 157), type := _, pos := _, after := _, guard := _ }) (v := .bool false) rfl (by kernel_rfl) (by kernel_rfl) (by kernel_rfl) (fun _ _ _ h => h) (Or.inl ⟨by rfl, fun V (hV : W6.grownBy V none) => by go_simp⟩) hh8 ?_
        (try simp only [Act.put, List.setIfInBounds_toArray, List.set_cons_zero, List.set_cons_succ])
        refine wpAnyH_done (by kernel_rfl) ?_ _
        refine NoPanic.normal ?_
        have HGQ := hide hh8
        obtain ⟨wr, hwr⟩ : ∃ V, V = wc7 := ⟨_, rfl⟩
        rw [← hwr] at HGQ ⊢
        clear hwr
        replace p0 := (unhide HGQ).cell p0 (by simp)
        replace p1 := (unhide HGQ).cell p1 (by simp)
        have hbs := bs_obj 3 a2 m2 c2 wr
        obtain ⟨W5, hW5, hB5, g5⟩ : ∃ W, W = wr.alloc (.cells #[.int .i64 3, .slice a2 m2 c2] 34) ∧ Blk W wr.heap.size 34 [.int .i64 3, .slice a2 m2 c2] ∧ wr.grownBy W none := box_new wr _ _
        have gq := tn (unhide HGQ) g5
        have HV5 := hide (tn (unhide HV) gq)
        have HO5 := hide ((unhide HO).none gq)
        have HD5 := hide ((unhide HD6).kept gq (fun _ e => by cases e))
        have HY5 : Hid (∀ ad, a2 = some ad → Typ W5 ad.block) := hide fun ad e => (unhide HY6 ad e).kept gq (by simp)
        have HBS := hide hbs
        have HW5 := hide hW5
        have HB5 := hide hB5
        have hR9 : R.length ≤ 100000 := by have := (unhide HR).2.2; omega
        clear hbs hW5 hB5 g5 gq HGQ HD6 HY6
        go_wp2_with (first
          | (refine wpList_build1 rfl 31 _ rfl (.agg #[.int .i64 3, .slice a2 m2 c2]) _ rfl (unhide HBS) ?_; rw [← unhide HW5])
          | (refine wpList_append_obj rfl _ _ rfl W0.heap.size _ R.length _ rfl (unhide HO5).own wr.heap.size [.int .i64 3, .slice a2 m2 c2] (unhide HB5) rfl (by simp [Value.oneCell']) rfl hR9 (unhide HV5).size ?_; intro v6 w6 ho6 g6; have HO6 := hide ho6; have HG6 := hide g6; clear ho6 g6))
        have hO9 : Objs w6 W0.heap.size v6 (R ++ [⟨3, D2, a2, c2⟩]) := Objs.put (unhide HO5) ⟨3, D2, a2, c2⟩ (unhide HD5) (unhide HY5) (unhide HG6) (by
          have z := unhide HO6
          rw [unhide HM2] at z
          exact z)
        refine unhide FIN2 w6 v6 (R ++ [⟨3, D2, a2, c2⟩]) _ _ _ _ _ _ _ _ _ _ _ _ _ _ _ _ _ _ _ _ _ _ _ _ _ _ _ _ _ _ _ _ _ _ _ _ _ _ _ _ _ _ _ _ _ _ _ _ _ _ _ _ _ _ _ _ _ _ _ _ _ _ _ _ _ _ _ _ _ _ _ _ _ _ _ _ _ _ _ _ _ _ _ _ _ _ _ _ _ _ _ _ _ _ _ _ _ _ _ _ _ _ _ _ _ _ _ _ _ _ _ _ _ _ _ _ _ _ _ _ _ _ _ _ _ _ _ _ _ _ _ _ _ _ _ _ _ _ _ _ _ _ _ _ _ (gb_trans (unhide HV5) (unhide HG6) (fun x e => Or.inl ((unhide HO5).own.lt x e).1)) hO9 ?_
        exact (unhide HR).put ⟨3, D2, a2, c2⟩ rfl (unhide HBK) (unhide HBL)
      · have hy2b : (Y2 == 0) = false := by simpa using hy2
        go_wp2_with fail
        exact unhide FIN2 W4 _ R _ _ _ _ _ _ _ _ _ _ _ _ _ _ _ _ _ _ _ _ _ _ _ _ _ _ _ _ _ _ _ _ _ _ _ _ _ _ _ _ _ _ _ _ _ _ _ _ _ _ _ _ _ _ _ _ _ _ _ _ _ _ _ _ _ _ _ _ _ _ _ _ _ _ _ _ _ _ _ _ _ _ _ _ _ _ _ _ _ _ _ _ _ _ _ _ _ _ _ _ _ _ _ _ _ _ _ _ _ _ _ _ _ _ _ _ _ _ _ _ _ _ _ _ _ _ _ _ _ _ _ _ _ _ _ _ _ _ _ _ _ _ _ _ _ (unhide HV) (unhide HO) (unhide HR).up
  have FIN1 := hide fin1
  clear fin1 hJ1 HC HM HTM HMT HM2 HM3 HY2 HY3 HK2 HK3 HP HPP HTT HTB
  by_cases hy1 : Y1 = 0
  · subst hy1
    have hK2 : K1 = 2 := by rw [unhide HK1]; rfl
    subst hK2
    obtain ⟨bk1, bk2⟩ := back_T (unhide HE).ids (unhide HY1).symm
    have bk3 := ofTree_le (unhide HY1).symm
    have p0 := (unhide HB1).cell 0
    have p1 := (unhide HB1).cell 1
    simp only [List.getElem?_cons_zero, List.getElem?_cons_succ] at p0 p1
    have HTO : Hid (Calls Tryd.prog 6 #[.agg #[.int .i64 2, .slice a1 m1 c1]] W1 fun e w' => ∃ xo xc, e = .returned (.tuple #[.slice xo n xc, .int .i64 0]) ∧ Ens w' xo xc es ∧ W1.grownBy w' none) := hide (by
      have z := treeOf_any W1 2 a1 c1 D1 (unhide HD1) (by omega)
      rw [bk1, ← unhide HM1] at z
      refine z.mono ?_
      rintro e w' ⟨v, y, rfl, rfl, ho, g⟩
      obtain ⟨xo, xc, rfl, hx⟩ := Ens.own ho (unhide HE).ids
      exact ⟨xo, xc, by rw [unhide HN], hx, g⟩)
    have HBK := hide bk2
    have HBL := hide bk3
    clear bk1 bk2 bk3 HK1
    go_wp2_with fail
    refine (unhide HTO).mono ?_
    rintro e w2 ⟨xo, xc, rfl, hx2, g2⟩
    have G2 := tn G1 g2
    have HX2 := hide hx2
    have HE2 := hide ((unhide HE).none (tn (unhide HG) G2))
    replace p0 := g2.cell p0 (by simp)
    replace p1 := g2.cell p1 (by simp)
    have HD2 := hide ((unhide HD1).kept g2 (fun _ e => by cases e))
    have HY8 : Hid (∀ ad, a1 = some ad → Typ w2 ad.block) := hide fun ad e => (unhide HY9 ad e).kept g2 (by simp)
    clear hx2 g2 HTO HD1 HY9 HB1 HW1
    go_wp2_with fail
    go_loopw [12] (fun i wr => ∃ j : Nat, i = .int .i64 j ∧ j ≤ n ∧ w2.grownBy wr none) (fun i _ => n - (intOf i).toNat)
    case atStart => exact ⟨0, rfl, Nat.zero_le _, gb_refl _ _⟩
    case round =>
      obtain ⟨j, rfl, hj, hg⟩ := hrel
      by_cases hlt : j < n
      · have hl : j < es.length := by have := unhide HN; omega
        obtain ⟨b1, o1, e1, hr1⟩ := (unhide HX2).at j hl
        obtain ⟨b2, o2, e2, hr2⟩ := (unhide HE2).at j hl
        have hx1 := hr1 j hl
        have hx2 := hr2 j hl
        have hid := (unhide HE).ids _ (List.getElem_mem hl)
        obtain ⟨EC, hEC⟩ : ∃ C, C = enC es[j] := ⟨_, rfl⟩
        rw [← hEC] at hx1 hx2
        have hq : ∀ V : World, (binOp .neq 41 (.agg EC.toArray) (.agg EC.toArray)).run Tryd.prog V = .ok (.bool false) V := fun V => by
          rw [hEC]; exact neq_ent V _ hid
        have HJ : Hid ((Tryd.prog.info? 41).map (·.size) = some EC.length) := hide (by rw [hEC, enC_len _ hid]; exact info_ent)
        subst e1 e2
        have h0 : w2.grownBy wr.drew none := gb_drew hg
        clear hr1 hr2 hEC hl hid p0 p1
        go_upto_region 12 with fail
        refine wp_region_noPanic ?_
        refine wp_region_held_drew (S := fun V => w2.grownBy V none) (by kernel_rfl) h0 (fun _ => ?_)
        refine wpAnyH_take (i := 0) (oi := { dst := some 84, op := Op.move (Operand.tmp 10), type := _, pos := _, after := _, guard := _ }) (v := .slice (some ⟨b1, o1, none⟩) n xc) rfl (by kernel_rfl) (by kernel_rfl) (by kernel_rfl) (fun _ _ _ h => h) (Or.inl ⟨by rfl, fun V (hV : w2.grownBy V none) => by go_simp⟩) h0 ?_
        (try simp only [Act.put, List.setIfInBounds_toArray, List.set_cons_zero, List.set_cons_succ])
        refine wpAnyH_take (i := 1) (oi := { dst := some 85, op := Op.move (Operand.tmp 12), type := _, pos := _, after := _, guard := _ }) (v := .int .i64 (j : Int)) rfl (by kernel_rfl) (by kernel_rfl) (by kernel_rfl) (fun _ _ _ h => h) (Or.inl ⟨by rfl, fun V (hV : w2.grownBy V none) => by go_simp⟩) h0 ?_
        (try simp only [Act.put, List.setIfInBounds_toArray, List.set_cons_zero, List.set_cons_succ])
        refine wpAnyH_take (i := 4) (oi := { dst := some 88, op := Op.move (Operand.tmp 0), type := _, pos := _, after := _, guard := _ }) (v := .slice (some ⟨b2, o2, none⟩) n c) rfl (by kernel_rfl) (by kernel_rfl) (by kernel_rfl) (fun _ _ _ h => h) (Or.inl ⟨by rfl, fun V (hV : w2.grownBy V none) => by go_simp⟩) h0 ?_
        (try simp only [Act.put, List.setIfInBounds_toArray, List.set_cons_zero, List.set_cons_succ])
        refine wpAnyH_take (i := 5) (oi := { dst := some 89, op := Op.move (Operand.tmp 12), type := _, pos := _, after := _, guard := _ }) (v := .int .i64 (j : Int)) rfl (by kernel_rfl) (by kernel_rfl) (by kernel_rfl) (fun _ _ _ h => h) (Or.inl ⟨by rfl, fun V (hV : w2.grownBy V none) => by go_simp⟩) h0 ?_
        (try simp only [Act.put, List.setIfInBounds_toArray, List.set_cons_zero, List.set_cons_succ])
        refine wpAnyH_take (i := 2) (oi := { dst := some 86, op := Op.indexAddr 22 (Operand.tmp 84) (Operand.tmp 85), type := _, pos := _, after := _, guard := _ }) (v := .pointer (some ⟨b1, o1 + j * 34, none⟩)) rfl (by kernel_rfl) (by kernel_rfl) (by kernel_rfl) (fun _ _ _ h => h) (Or.inl ⟨by rfl, fun V (hV : w2.grownBy V none) => by go_simp⟩) h0 ?_
        (try simp only [Act.put, List.setIfInBounds_toArray, List.set_cons_zero, List.set_cons_succ])
        refine wpAnyH_take (i := 6) (oi := { dst := some 90, op := Op.indexAddr 22 (Operand.tmp 88) (Operand.tmp 89), type := _, pos := _, after := _, guard := _ }) (v := .pointer (some ⟨b2, o2 + j * 34, none⟩)) rfl (by kernel_rfl) (by kernel_rfl) (by kernel_rfl) (fun _ _ _ h => h) (Or.inl ⟨by rfl, fun V (hV : w2.grownBy V none) => by go_simp⟩) h0 ?_
        (try simp only [Act.put, List.setIfInBounds_toArray, List.set_cons_zero, List.set_cons_succ])
        refine wpAnyH_take (i := 3) (oi := { dst := some 87, op := Op.load 41 (Operand.tmp 86), type := _, pos := _, after := _, guard := _ }) (v := .agg EC.toArray) rfl (by kernel_rfl) (by kernel_rfl) (by kernel_rfl) (fun _ _ _ h => h) (yieldsIf_load_mid (by rfl) _ _ rfl _ _ rfl EC _ (fun V hV => range_kept hx1 hV (by simp)) Tryd.underlying41 rfl (unhide HJ)) h0 ?_
        (try simp only [Act.put, List.setIfInBounds_toArray, List.set_cons_zero, List.set_cons_succ])
        refine wpAnyH_take (i := 7) (oi := { dst := some 91, op := Op.load 41 (Operand.tmp 90), type := _, pos := _, after := _, guard := _ }) (v := .agg EC.toArray) rfl (by kernel_rfl) (by kernel_rfl) (by kernel_rfl) (fun _ _ _ h => h) (yieldsIf_load_mid (by rfl) _ _ rfl _ _ rfl EC _ (fun V hV => range_kept hx2 hV (by simp)) Tryd.underlying41 rfl (unhide HJ)) h0 ?_
        (try simp only [Act.put, List.setIfInBounds_toArray, List.set_cons_zero, List.set_cons_succ])
        refine wpAnyH_take (i := 8) (oi := { dst := some 92, op := Op.binOp BinOp.neq 41 (Operand.tmp 87) (Operand.tmp 91) 41, type := _, pos := _, after := _, guard := _ }) (v := .bool false) rfl (by kernel_rfl) (by kernel_rfl) (by kernel_rfl) (fun _ _ _ h => h) (yieldsIf_ne (by rfl) _ _ _ _ rfl _ _ _ rfl rfl guard_ent hq) h0 ?_
        (try simp only [Act.put, List.setIfInBounds_toArray, List.set_cons_zero, List.set_cons_succ])
        refine wpAnyH_done (by kernel_rfl) ?_ _
        refine NoPanic.normal ?_
        go_wp2_with fail
        go_roundw
        case rel => exact ⟨j + 1, by go_num, by omega, h0⟩
        case measure => simp [intOf]; omega
      · replace p0 := hg.cell p0 (by simp)
        replace p1 := hg.cell p1 (by simp)
        have hbs := bs_obj 2 a1 m1 c1 wr
        obtain ⟨W5, hW5, hB5, g5⟩ : ∃ W, W = wr.alloc (.cells #[.int .i64 2, .slice a1 m1 c1] 34) ∧ Blk W wr.heap.size 34 [.int .i64 2, .slice a1 m1 c1] ∧ wr.grownBy W none := box_new wr _ _
        have G5 := tn (tn G2 hg) g5
        have gq := tn hg g5
        have HD5 := hide ((unhide HD2).kept gq (fun _ e => by cases e))
        have HY5 : Hid (∀ ad, a1 = some ad → Typ W5 ad.block) := hide fun ad e => (unhide HY8 ad e).kept gq (by simp)
        have HBS := hide hbs
        have HW5 := hide hW5
        have HB5 := hide hB5
        have HG5 := hide G5
        clear hbs hW5 hB5 g5 G5 gq hg HX2 HE2 HD2 HY8
        go_wp2_with (first
          | (refine wpList_build1 rfl 31 _ rfl (.agg #[.int .i64 2, .slice a1 m1 c1]) _ rfl (unhide HBS) ?_; rw [← unhide HW5])
          | (refine wpList_append_obj rfl _ _ rfl W0.heap.size _ 0 [] rfl (World.ownsRow_nil _ _ _ _) wr.heap.size [.int .i64 2, .slice a1 m1 c1] (unhide HB5) rfl (by simp [Value.oneCell']) rfl (by omega) (unhide HG5).size ?_; intro v6 w6 ho6 g6; have HO6 := hide ho6; have HG6 := hide g6; clear ho6 g6))
        have hO : Objs w6 W0.heap.size v6 [⟨2, D1, a1, c1⟩] := Objs.put (Objs.nil W5 _) ⟨2, D1, a1, c1⟩ (unhide HD5) (unhide HY5) (unhide HG6) (by
          have z := unhide HO6
          rw [unhide HM1] at z
          exact z)
        refine unhide FIN1 w6 v6 [⟨2, D1, a1, c1⟩] _ _ _ _ _ _ _ _ _ _ _ _ _ _ _ _ _ _ _ _ _ _ _ _ _ _ _ _ _ _ _ _ _ _ _ _ _ _ _ _ _ _ _ _ _ _ _ _ _ _ _ _ _ _ _ _ _ _ _ _ _ _ _ _ _ _ _ _ _ _ _ _ _ _ _ (tn (unhide HG5) (unhide HG6)) hO ?_
        exact Okl.put (k := 1) (Okl.nil 1) ⟨2, D1, a1, c1⟩ rfl (unhide HBK) (unhide HBL)
  · have hy2 : (Y1 == 0) = false := by simpa using hy1
    go_wp2_with fail
    exact unhide FIN1 W1 _ [] _ _ _ _ _ _ _ _ _ _ _ _ _ _ _ _ _ _ _ _ _ _ _ _ _ _ _ _ _ _ _ _ _ _ _ _ _ _ _ _ _ _ _ _ _ _ _ _ _ _ _ _ _ _ _ _ _ _ _ _ _ _ _ _ _ _ _ _ _ _ _ _ _ _ _ G1 (Objs.nil _ _) (Okl.nil 2)

end Go.Proofs.YtcemdlcimhoeeaaDoor
