/- ObjectMakes answers true of any entries, commit and note, and nothing that was in memory has changed. No condition. -/
import Derived.Test.YtcemdlcimhoeeaaOTree
import Derived.Test.YtcemdlcimhoeeaaOChgM
import Derived.Test.YtcemdlcimhoeeaaOCloT
import Derived.Test.YtcemdlcimhoeeaaRTree
import Derived.Test.YtcemdlcimhoeeaaRChg
import Derived.Test.YtcemdlcimhoeeaaRMrk
import Derived.Test.YtcemdlcimhoeeaaOApp
import Derived.Test.YtcemdlcimhoeeaaOOne
import Derived.Test.YtcemdlcimhoeeaaOLaw
import Derived.Test.YtcemdlcimhoeeaaMGrd
namespace Go.Proofs.Ytcemdlcimhoeeaa
open Go.RowKit

/-- The lengths of the names, together. -/
def sumN (es : List EntL) : Nat := (es.map (·.name.length)).sum
theorem sumN_take (es : List EntL) (j : Nat) (h : j < es.length) : sumN (es.take (j + 1)) = sumN (es.take j) + es[j].name.length := by
  rw [List.take_succ_eq_append_getElem h]
  simp only [sumN, List.map_append, List.sum_append, List.map_cons, List.map_nil, List.sum_cons, List.sum_nil, Nat.add_zero]
theorem sumN_le (es : List EntL) (e : EntL) (h : e ∈ es) : e.name.length ≤ sumN es := by
  induction es with
  | nil => cases h
  | cons x l ih =>
    rcases List.mem_cons.1 h with rfl | h2
    · simp [sumN]
    · have := ih h2; simp only [sumN, List.map_cons, List.sum_cons] at this ⊢; omega

theorem made_open {w w' : World} {K : Int} {r : Int × List UInt8} {e : Ending} (h : Made w w' K r e) : ∃ a c, e = .returned (.tuple #[.agg #[.int .i64 (if r.1 = 0 then K else 0), .slice a r.2.length c], .int .i64 r.1]) ∧ Bts w' a c r.2 ∧ w.grownBy w' none := by
  obtain ⟨v, h1, ⟨a, c, rfl, hb, _⟩, g⟩ := h
  exact ⟨a, c, h1, hb, g⟩

set_option maxRecDepth 100000 in
set_option maxHeartbeats 8000000 in
theorem makes_law (w : World) (ao : Option Addr) (c : Nat) (es : List EntL) (hE : Ens w ao c es) (hs : ∀ e ∈ es, e.name.length ≤ 140737488355328) (cg : ChgL) (po : Option Addr) (pc : Nat) (hP : Ids w po pc cg.pars) (ht : cg.tree.length = 32) (htm : cg.time < 18446744073709551616) (ha : cg.author.length ≤ 140737488355328) (hx : cg.text.length ≤ 140737488355328) (mk : MrkL) (hmt : mk.target.length = 32) (hma : mk.name.length ≤ 140737488355328) (hmx : mk.text.length ≤ 140737488355328) :
    Calls Try.prog 3 #[.slice ao es.length c, .agg (chC cg po pc).toArray, .agg (mkC mk).toArray] w fun e w' => e = .returned (.bool true) ∧ w.grownBy w' none := by
  obtain ⟨n, hn⟩ : ∃ n, n = es.length := ⟨_, rfl⟩
  obtain ⟨p, hp⟩ : ∃ n, n = cg.pars.length := ⟨_, rfl⟩
  obtain ⟨na, hna⟩ : ∃ n, n = cg.author.length := ⟨_, rfl⟩
  obtain ⟨nx, hnx⟩ : ∃ n, n = cg.text.length := ⟨_, rfl⟩
  obtain ⟨nn, hnn⟩ : ∃ n, n = mk.name.length := ⟨_, rfl⟩
  obtain ⟨ny, hny⟩ : ∃ n, n = mk.text.length := ⟨_, rfl⟩
  obtain ⟨at1, at2, at3, at4⟩ := chC_at cg po pc ht
  obtain ⟨bt1, bt2⟩ := mkC_at mk hmt
  have hCl := chC_len cg po pc ht
  have hMl := mkC_len mk hmt
  obtain ⟨CC, hCC⟩ : ∃ C, C = chC cg po pc := ⟨_, rfl⟩
  obtain ⟨MC, hMC⟩ : ∃ C, C = mkC mk := ⟨_, rfl⟩
  rw [← hCC] at at1 at2 at3 at4 hCl
  rw [← hMC] at bt1 bt2 hMl
  rw [← hn, ← hCC, ← hMC]
  obtain ⟨TA, hTA⟩ : ∃ T, T = str cg.author := ⟨_, rfl⟩
  obtain ⟨TX, hTX⟩ : ∃ T, T = str cg.text := ⟨_, rfl⟩
  obtain ⟨TN, hTN⟩ : ∃ T, T = str mk.name := ⟨_, rfl⟩
  obtain ⟨TY, hTY⟩ : ∃ T, T = str mk.text := ⟨_, rfl⟩
  rw [← hp] at at1
  rw [← hTA] at at3
  rw [← hTX] at at4
  rw [← hTN] at bt1
  rw [← hTY] at bt2
  have zA : TA.size = na := by rw [hTA, str_size, hna]
  have zX : TX.size = nx := by rw [hTX, str_size, hnx]
  have zN : TN.size = nn := by rw [hTN, str_size, hnn]
  have zY : TY.size = ny := by rw [hTY, str_size, hny]
  obtain ⟨Wa, hWa, hBa, ga⟩ := box_new w 28 CC
  have hWb : ∃ W1, W1 = Wa.alloc (.cells MC.toArray 30) ∧ Blk W1 (w.heap.size + 1) 30 MC ∧ Wa.grownBy W1 none := by
    refine ⟨_, rfl, ?_, gb_alloc (gb_refl _ _) _⟩
    have hsz : Wa.heap.size = w.heap.size + 1 := by rw [hWa]; simp
    rw [← hsz]
    exact Blk.new Wa _ _
  obtain ⟨W0, hW0, hB0, gb⟩ := hWb
  have hBC := hBa.kept gb (by simp)
  have G0 := tn ga gb
  have hW : W0 = (w.alloc (.cells CC.toArray 28)).alloc (.cells MC.toArray 30) := by rw [hW0, hWa]
  have HW := hide hW
  have k1 : W0.cell? ⟨w.heap.size, 32, none⟩ = some (.slice po p pc) := by rw [hBC.cell 32, at1]
  have k3 : W0.cell? ⟨w.heap.size, 34, none⟩ = some (.string TA) := by rw [hBC.cell 34, at3]
  have k4 : W0.cell? ⟨w.heap.size, 35, none⟩ = some (.string TX) := by rw [hBC.cell 35, at4]
  have k5 : W0.cell? ⟨w.heap.size + 1, 32, none⟩ = some (.string TN) := by rw [hB0.cell 32, bt1]
  have k6 : W0.cell? ⟨w.heap.size + 1, 33, none⟩ = some (.string TY) := by rw [hB0.cell 33, bt2]
  have vA : na ≤ 140737488355328 := by omega
  have vX : nx ≤ 140737488355328 := by omega
  have vN : nn ≤ 140737488355328 := by omega
  have vY : ny ≤ 140737488355328 := by omega
  have wA : IntKind.i64.wrap ((na : Int) + (nx : Int)) = (na : Int) + (nx : Int) := by rw [IntKind.wrap_i64]; omega
  have wN : IntKind.i64.wrap ((nn : Int) + (ny : Int)) = (nn : Int) + (ny : Int) := by rw [IntKind.wrap_i64]; omega
  have HRC := hide (blk_all hBC)
  have HRM := hide (blk_all hB0)
  clear at1 at2 at3 at4 bt1 bt2 hWa hW0 hW hBa hBC hB0 ga gb hTA hTX hTN hTY
  by_cases h1 : (40 : Int) < (n : Int)
  · clear hE hs hP ha hx hma hmx hn hp hna hnx hnn hny hCC hMC
    go_enter Try.func3, Try.ntmps3
    go_upto_region 1 with (rw [← unhide HW])
    refine region_named fun O hO => ?_
    refine wpList_val (by rw [hO]; kernel_rfl) (.slice ao n c) (fun K9 hK9 => by go_simp; exact hK9) ?_
    (try simp only [Act.put, List.setIfInBounds_toArray, List.set_cons_zero, List.set_cons_succ])
    refine wpList_val (by rw [hO]; kernel_rfl) (.int .i64 (n : Int)) (fun K9 hK9 => by go_simp; exact hK9) ?_
    (try simp only [Act.put, List.setIfInBounds_toArray, List.set_cons_zero, List.set_cons_succ])
    refine wpList_val (by rw [hO]; kernel_rfl) (.bool true) (fun K9 hK9 => by go_simp; exact hK9) ?_
    (try simp only [Act.put, List.setIfInBounds_toArray, List.set_cons_zero, List.set_cons_succ])
    refine wpList_val (by rw [hO]; kernel_rfl) (.bool true) (fun K9 hK9 => by go_simp; exact hK9) ?_
    (try simp only [Act.put, List.setIfInBounds_toArray, List.set_cons_zero, List.set_cons_succ])
    refine wpList_skip (by rw [hO]; kernel_rfl) ?_
    (try simp only [Act.put, List.setIfInBounds_toArray, List.set_cons_zero, List.set_cons_succ])
    refine wpList_skip (by rw [hO]; kernel_rfl) ?_
    (try simp only [Act.put, List.setIfInBounds_toArray, List.set_cons_zero, List.set_cons_succ])
    refine wpList_skip (by rw [hO]; kernel_rfl) ?_
    (try simp only [Act.put, List.setIfInBounds_toArray, List.set_cons_zero, List.set_cons_succ])
    refine wpList_skip (by rw [hO]; kernel_rfl) ?_
    (try simp only [Act.put, List.setIfInBounds_toArray, List.set_cons_zero, List.set_cons_succ])
    refine wpList_val (by rw [hO]; kernel_rfl) (.bool true) (fun K9 hK9 => by go_simp; exact hK9) ?_
    (try simp only [Act.put, List.setIfInBounds_toArray, List.set_cons_zero, List.set_cons_succ])
    refine wpList_val (by rw [hO]; kernel_rfl) (.bool true) (fun K9 hK9 => by go_simp; exact hK9) ?_
    (try simp only [Act.put, List.setIfInBounds_toArray, List.set_cons_zero, List.set_cons_succ])
    refine wpList_skip (by rw [hO]; kernel_rfl) ?_
    (try simp only [Act.put, List.setIfInBounds_toArray, List.set_cons_zero, List.set_cons_succ])
    refine wpList_skip (by rw [hO]; kernel_rfl) ?_
    (try simp only [Act.put, List.setIfInBounds_toArray, List.set_cons_zero, List.set_cons_succ])
    refine wpList_skip (by rw [hO]; kernel_rfl) ?_
    (try simp only [Act.put, List.setIfInBounds_toArray, List.set_cons_zero, List.set_cons_succ])
    refine wpList_skip (by rw [hO]; kernel_rfl) ?_
    (try simp only [Act.put, List.setIfInBounds_toArray, List.set_cons_zero, List.set_cons_succ])
    refine wpList_skip (by rw [hO]; kernel_rfl) ?_
    (try simp only [Act.put, List.setIfInBounds_toArray, List.set_cons_zero, List.set_cons_succ])
    refine wpList_skip (by rw [hO]; kernel_rfl) ?_
    (try simp only [Act.put, List.setIfInBounds_toArray, List.set_cons_zero, List.set_cons_succ])
    refine wpList_skip (by rw [hO]; kernel_rfl) ?_
    (try simp only [Act.put, List.setIfInBounds_toArray, List.set_cons_zero, List.set_cons_succ])
    refine wpList_skip (by rw [hO]; kernel_rfl) ?_
    (try simp only [Act.put, List.setIfInBounds_toArray, List.set_cons_zero, List.set_cons_succ])
    refine wpList_val (by rw [hO]; kernel_rfl) (.bool true) (fun K9 hK9 => by go_simp; exact hK9) ?_
    (try simp only [Act.put, List.setIfInBounds_toArray, List.set_cons_zero, List.set_cons_succ])
    refine wpList_val (by rw [hO]; kernel_rfl) (.bool true) (fun K9 hK9 => by go_simp; exact hK9) ?_
    (try simp only [Act.put, List.setIfInBounds_toArray, List.set_cons_zero, List.set_cons_succ])
    refine wpList_skip (by rw [hO]; kernel_rfl) ?_
    (try simp only [Act.put, List.setIfInBounds_toArray, List.set_cons_zero, List.set_cons_succ])
    refine wpList_skip (by rw [hO]; kernel_rfl) ?_
    (try simp only [Act.put, List.setIfInBounds_toArray, List.set_cons_zero, List.set_cons_succ])
    refine wpList_skip (by rw [hO]; kernel_rfl) ?_
    (try simp only [Act.put, List.setIfInBounds_toArray, List.set_cons_zero, List.set_cons_succ])
    refine wpList_skip (by rw [hO]; kernel_rfl) ?_
    (try simp only [Act.put, List.setIfInBounds_toArray, List.set_cons_zero, List.set_cons_succ])
    refine wpList_skip (by rw [hO]; kernel_rfl) ?_
    (try simp only [Act.put, List.setIfInBounds_toArray, List.set_cons_zero, List.set_cons_succ])
    refine wpList_skip (by rw [hO]; kernel_rfl) ?_
    (try simp only [Act.put, List.setIfInBounds_toArray, List.set_cons_zero, List.set_cons_succ])
    refine wpList_skip (by rw [hO]; kernel_rfl) ?_
    (try simp only [Act.put, List.setIfInBounds_toArray, List.set_cons_zero, List.set_cons_succ])
    refine wpList_skip (by rw [hO]; kernel_rfl) ?_
    (try simp only [Act.put, List.setIfInBounds_toArray, List.set_cons_zero, List.set_cons_succ])
    refine wpList_val (by rw [hO]; kernel_rfl) (.bool true) (fun K9 hK9 => by go_simp; exact hK9) ?_
    (try simp only [Act.put, List.setIfInBounds_toArray, List.set_cons_zero, List.set_cons_succ])
    go_wp2
    go_ret
    exact ⟨rfl, G0⟩
  by_cases h2 : (10 : Int) < (p : Int)
  · clear hE hs hP ha hx hma hmx hn hp hna hnx hnn hny hCC hMC
    go_enter Try.func3, Try.ntmps3
    go_upto_region 1 with (rw [← unhide HW])
    refine region_named fun O hO => ?_
    refine wpList_val (by rw [hO]; kernel_rfl) (.slice ao n c) (fun K9 hK9 => by go_simp; exact hK9) ?_
    (try simp only [Act.put, List.setIfInBounds_toArray, List.set_cons_zero, List.set_cons_succ])
    refine wpList_val (by rw [hO]; kernel_rfl) (.int .i64 (n : Int)) (fun K9 hK9 => by go_simp; exact hK9) ?_
    (try simp only [Act.put, List.setIfInBounds_toArray, List.set_cons_zero, List.set_cons_succ])
    refine wpList_val (by rw [hO]; kernel_rfl) (.bool false) (fun K9 hK9 => by go_simp; exact hK9) ?_
    (try simp only [Act.put, List.setIfInBounds_toArray, List.set_cons_zero, List.set_cons_succ])
    refine wpList_val (by rw [hO]; kernel_rfl) (.bool false) (fun K9 hK9 => by go_simp; exact hK9) ?_
    (try simp only [Act.put, List.setIfInBounds_toArray, List.set_cons_zero, List.set_cons_succ])
    refine wpList_val (by rw [hO]; kernel_rfl) (.pointer (some ⟨w.heap.size, 32, none⟩)) (fun K9 hK9 => by go_simp; exact hK9) ?_
    (try simp only [Act.put, List.setIfInBounds_toArray, List.set_cons_zero, List.set_cons_succ])
    refine wpList_val (by rw [hO]; kernel_rfl) (.slice po p pc) (fun K9 hK9 => by go_simp; exact hK9) ?_
    (try simp only [Act.put, List.setIfInBounds_toArray, List.set_cons_zero, List.set_cons_succ])
    refine wpList_val (by rw [hO]; kernel_rfl) (.int .i64 (p : Int)) (fun K9 hK9 => by go_simp; exact hK9) ?_
    (try simp only [Act.put, List.setIfInBounds_toArray, List.set_cons_zero, List.set_cons_succ])
    refine wpList_val (by rw [hO]; kernel_rfl) (.bool true) (fun K9 hK9 => by go_simp; exact hK9) ?_
    (try simp only [Act.put, List.setIfInBounds_toArray, List.set_cons_zero, List.set_cons_succ])
    refine wpList_val (by rw [hO]; kernel_rfl) (.bool true) (fun K9 hK9 => by go_simp; exact hK9) ?_
    (try simp only [Act.put, List.setIfInBounds_toArray, List.set_cons_zero, List.set_cons_succ])
    refine wpList_val (by rw [hO]; kernel_rfl) (.bool true) (fun K9 hK9 => by go_simp; exact hK9) ?_
    (try simp only [Act.put, List.setIfInBounds_toArray, List.set_cons_zero, List.set_cons_succ])
    refine wpList_skip (by rw [hO]; kernel_rfl) ?_
    (try simp only [Act.put, List.setIfInBounds_toArray, List.set_cons_zero, List.set_cons_succ])
    refine wpList_skip (by rw [hO]; kernel_rfl) ?_
    (try simp only [Act.put, List.setIfInBounds_toArray, List.set_cons_zero, List.set_cons_succ])
    refine wpList_skip (by rw [hO]; kernel_rfl) ?_
    (try simp only [Act.put, List.setIfInBounds_toArray, List.set_cons_zero, List.set_cons_succ])
    refine wpList_skip (by rw [hO]; kernel_rfl) ?_
    (try simp only [Act.put, List.setIfInBounds_toArray, List.set_cons_zero, List.set_cons_succ])
    refine wpList_skip (by rw [hO]; kernel_rfl) ?_
    (try simp only [Act.put, List.setIfInBounds_toArray, List.set_cons_zero, List.set_cons_succ])
    refine wpList_skip (by rw [hO]; kernel_rfl) ?_
    (try simp only [Act.put, List.setIfInBounds_toArray, List.set_cons_zero, List.set_cons_succ])
    refine wpList_skip (by rw [hO]; kernel_rfl) ?_
    (try simp only [Act.put, List.setIfInBounds_toArray, List.set_cons_zero, List.set_cons_succ])
    refine wpList_skip (by rw [hO]; kernel_rfl) ?_
    (try simp only [Act.put, List.setIfInBounds_toArray, List.set_cons_zero, List.set_cons_succ])
    refine wpList_val (by rw [hO]; kernel_rfl) (.bool true) (fun K9 hK9 => by go_simp; exact hK9) ?_
    (try simp only [Act.put, List.setIfInBounds_toArray, List.set_cons_zero, List.set_cons_succ])
    refine wpList_val (by rw [hO]; kernel_rfl) (.bool true) (fun K9 hK9 => by go_simp; exact hK9) ?_
    (try simp only [Act.put, List.setIfInBounds_toArray, List.set_cons_zero, List.set_cons_succ])
    refine wpList_skip (by rw [hO]; kernel_rfl) ?_
    (try simp only [Act.put, List.setIfInBounds_toArray, List.set_cons_zero, List.set_cons_succ])
    refine wpList_skip (by rw [hO]; kernel_rfl) ?_
    (try simp only [Act.put, List.setIfInBounds_toArray, List.set_cons_zero, List.set_cons_succ])
    refine wpList_skip (by rw [hO]; kernel_rfl) ?_
    (try simp only [Act.put, List.setIfInBounds_toArray, List.set_cons_zero, List.set_cons_succ])
    refine wpList_skip (by rw [hO]; kernel_rfl) ?_
    (try simp only [Act.put, List.setIfInBounds_toArray, List.set_cons_zero, List.set_cons_succ])
    refine wpList_skip (by rw [hO]; kernel_rfl) ?_
    (try simp only [Act.put, List.setIfInBounds_toArray, List.set_cons_zero, List.set_cons_succ])
    refine wpList_skip (by rw [hO]; kernel_rfl) ?_
    (try simp only [Act.put, List.setIfInBounds_toArray, List.set_cons_zero, List.set_cons_succ])
    refine wpList_skip (by rw [hO]; kernel_rfl) ?_
    (try simp only [Act.put, List.setIfInBounds_toArray, List.set_cons_zero, List.set_cons_succ])
    refine wpList_skip (by rw [hO]; kernel_rfl) ?_
    (try simp only [Act.put, List.setIfInBounds_toArray, List.set_cons_zero, List.set_cons_succ])
    refine wpList_val (by rw [hO]; kernel_rfl) (.bool true) (fun K9 hK9 => by go_simp; exact hK9) ?_
    (try simp only [Act.put, List.setIfInBounds_toArray, List.set_cons_zero, List.set_cons_succ])
    go_wp2
    go_ret
    exact ⟨rfl, G0⟩
  by_cases h3 : (40000 : Int) < (na : Int) + (nx : Int)
  · clear hE hs hP ha hx hma hmx hn hp hna hnx hnn hny hCC hMC
    go_enter Try.func3, Try.ntmps3
    go_upto_region 1 with (rw [← unhide HW])
    refine region_named fun O hO => ?_
    refine wpList_val (by rw [hO]; kernel_rfl) (.slice ao n c) (fun K9 hK9 => by go_simp; exact hK9) ?_
    (try simp only [Act.put, List.setIfInBounds_toArray, List.set_cons_zero, List.set_cons_succ])
    refine wpList_val (by rw [hO]; kernel_rfl) (.int .i64 (n : Int)) (fun K9 hK9 => by go_simp; exact hK9) ?_
    (try simp only [Act.put, List.setIfInBounds_toArray, List.set_cons_zero, List.set_cons_succ])
    refine wpList_val (by rw [hO]; kernel_rfl) (.bool false) (fun K9 hK9 => by go_simp; exact hK9) ?_
    (try simp only [Act.put, List.setIfInBounds_toArray, List.set_cons_zero, List.set_cons_succ])
    refine wpList_val (by rw [hO]; kernel_rfl) (.bool false) (fun K9 hK9 => by go_simp; exact hK9) ?_
    (try simp only [Act.put, List.setIfInBounds_toArray, List.set_cons_zero, List.set_cons_succ])
    refine wpList_val (by rw [hO]; kernel_rfl) (.pointer (some ⟨w.heap.size, 32, none⟩)) (fun K9 hK9 => by go_simp; exact hK9) ?_
    (try simp only [Act.put, List.setIfInBounds_toArray, List.set_cons_zero, List.set_cons_succ])
    refine wpList_val (by rw [hO]; kernel_rfl) (.slice po p pc) (fun K9 hK9 => by go_simp; exact hK9) ?_
    (try simp only [Act.put, List.setIfInBounds_toArray, List.set_cons_zero, List.set_cons_succ])
    refine wpList_val (by rw [hO]; kernel_rfl) (.int .i64 (p : Int)) (fun K9 hK9 => by go_simp; exact hK9) ?_
    (try simp only [Act.put, List.setIfInBounds_toArray, List.set_cons_zero, List.set_cons_succ])
    refine wpList_val (by rw [hO]; kernel_rfl) (.bool false) (fun K9 hK9 => by go_simp; exact hK9) ?_
    (try simp only [Act.put, List.setIfInBounds_toArray, List.set_cons_zero, List.set_cons_succ])
    refine wpList_val (by rw [hO]; kernel_rfl) (.bool false) (fun K9 hK9 => by go_simp; exact hK9) ?_
    (try simp only [Act.put, List.setIfInBounds_toArray, List.set_cons_zero, List.set_cons_succ])
    refine wpList_val (by rw [hO]; kernel_rfl) (.bool false) (fun K9 hK9 => by go_simp; exact hK9) ?_
    (try simp only [Act.put, List.setIfInBounds_toArray, List.set_cons_zero, List.set_cons_succ])
    refine wpList_val (by rw [hO]; kernel_rfl) (.pointer (some ⟨w.heap.size, 34, none⟩)) (fun K9 hK9 => by go_simp; exact hK9) ?_
    (try simp only [Act.put, List.setIfInBounds_toArray, List.set_cons_zero, List.set_cons_succ])
    refine wpList_val (by rw [hO]; kernel_rfl) (.string TA) (fun K9 hK9 => by go_simp; exact hK9) ?_
    (try simp only [Act.put, List.setIfInBounds_toArray, List.set_cons_zero, List.set_cons_succ])
    refine wpList_val (by rw [hO]; kernel_rfl) (.int .i64 (na : Int)) (fun K9 hK9 => by go_simp; exact hK9) ?_
    (try simp only [Act.put, List.setIfInBounds_toArray, List.set_cons_zero, List.set_cons_succ])
    refine wpList_val (by rw [hO]; kernel_rfl) (.pointer (some ⟨w.heap.size, 35, none⟩)) (fun K9 hK9 => by go_simp; exact hK9) ?_
    (try simp only [Act.put, List.setIfInBounds_toArray, List.set_cons_zero, List.set_cons_succ])
    refine wpList_val (by rw [hO]; kernel_rfl) (.string TX) (fun K9 hK9 => by go_simp; exact hK9) ?_
    (try simp only [Act.put, List.setIfInBounds_toArray, List.set_cons_zero, List.set_cons_succ])
    refine wpList_val (by rw [hO]; kernel_rfl) (.int .i64 (nx : Int)) (fun K9 hK9 => by go_simp; exact hK9) ?_
    (try simp only [Act.put, List.setIfInBounds_toArray, List.set_cons_zero, List.set_cons_succ])
    refine wpList_val (by rw [hO]; kernel_rfl) (.int .i64 ((na : Int) + (nx : Int))) (fun K9 hK9 => by go_simp; exact hK9) ?_
    (try simp only [Act.put, List.setIfInBounds_toArray, List.set_cons_zero, List.set_cons_succ])
    refine wpList_val (by rw [hO]; kernel_rfl) (.bool true) (fun K9 hK9 => by go_simp; exact hK9) ?_
    (try simp only [Act.put, List.setIfInBounds_toArray, List.set_cons_zero, List.set_cons_succ])
    refine wpList_val (by rw [hO]; kernel_rfl) (.bool true) (fun K9 hK9 => by go_simp; exact hK9) ?_
    (try simp only [Act.put, List.setIfInBounds_toArray, List.set_cons_zero, List.set_cons_succ])
    refine wpList_val (by rw [hO]; kernel_rfl) (.bool true) (fun K9 hK9 => by go_simp; exact hK9) ?_
    (try simp only [Act.put, List.setIfInBounds_toArray, List.set_cons_zero, List.set_cons_succ])
    refine wpList_skip (by rw [hO]; kernel_rfl) ?_
    (try simp only [Act.put, List.setIfInBounds_toArray, List.set_cons_zero, List.set_cons_succ])
    refine wpList_skip (by rw [hO]; kernel_rfl) ?_
    (try simp only [Act.put, List.setIfInBounds_toArray, List.set_cons_zero, List.set_cons_succ])
    refine wpList_skip (by rw [hO]; kernel_rfl) ?_
    (try simp only [Act.put, List.setIfInBounds_toArray, List.set_cons_zero, List.set_cons_succ])
    refine wpList_skip (by rw [hO]; kernel_rfl) ?_
    (try simp only [Act.put, List.setIfInBounds_toArray, List.set_cons_zero, List.set_cons_succ])
    refine wpList_skip (by rw [hO]; kernel_rfl) ?_
    (try simp only [Act.put, List.setIfInBounds_toArray, List.set_cons_zero, List.set_cons_succ])
    refine wpList_skip (by rw [hO]; kernel_rfl) ?_
    (try simp only [Act.put, List.setIfInBounds_toArray, List.set_cons_zero, List.set_cons_succ])
    refine wpList_skip (by rw [hO]; kernel_rfl) ?_
    (try simp only [Act.put, List.setIfInBounds_toArray, List.set_cons_zero, List.set_cons_succ])
    refine wpList_skip (by rw [hO]; kernel_rfl) ?_
    (try simp only [Act.put, List.setIfInBounds_toArray, List.set_cons_zero, List.set_cons_succ])
    refine wpList_val (by rw [hO]; kernel_rfl) (.bool true) (fun K9 hK9 => by go_simp; exact hK9) ?_
    (try simp only [Act.put, List.setIfInBounds_toArray, List.set_cons_zero, List.set_cons_succ])
    go_wp2
    go_ret
    exact ⟨rfl, G0⟩
  by_cases h4 : (40000 : Int) < (nn : Int) + (ny : Int)
  · clear hE hs hP ha hx hma hmx hn hp hna hnx hnn hny hCC hMC
    go_enter Try.func3, Try.ntmps3
    go_upto_region 1 with (rw [← unhide HW])
    refine region_named fun O hO => ?_
    refine wpList_val (by rw [hO]; kernel_rfl) (.slice ao n c) (fun K9 hK9 => by go_simp; exact hK9) ?_
    (try simp only [Act.put, List.setIfInBounds_toArray, List.set_cons_zero, List.set_cons_succ])
    refine wpList_val (by rw [hO]; kernel_rfl) (.int .i64 (n : Int)) (fun K9 hK9 => by go_simp; exact hK9) ?_
    (try simp only [Act.put, List.setIfInBounds_toArray, List.set_cons_zero, List.set_cons_succ])
    refine wpList_val (by rw [hO]; kernel_rfl) (.bool false) (fun K9 hK9 => by go_simp; exact hK9) ?_
    (try simp only [Act.put, List.setIfInBounds_toArray, List.set_cons_zero, List.set_cons_succ])
    refine wpList_val (by rw [hO]; kernel_rfl) (.bool false) (fun K9 hK9 => by go_simp; exact hK9) ?_
    (try simp only [Act.put, List.setIfInBounds_toArray, List.set_cons_zero, List.set_cons_succ])
    refine wpList_val (by rw [hO]; kernel_rfl) (.pointer (some ⟨w.heap.size, 32, none⟩)) (fun K9 hK9 => by go_simp; exact hK9) ?_
    (try simp only [Act.put, List.setIfInBounds_toArray, List.set_cons_zero, List.set_cons_succ])
    refine wpList_val (by rw [hO]; kernel_rfl) (.slice po p pc) (fun K9 hK9 => by go_simp; exact hK9) ?_
    (try simp only [Act.put, List.setIfInBounds_toArray, List.set_cons_zero, List.set_cons_succ])
    refine wpList_val (by rw [hO]; kernel_rfl) (.int .i64 (p : Int)) (fun K9 hK9 => by go_simp; exact hK9) ?_
    (try simp only [Act.put, List.setIfInBounds_toArray, List.set_cons_zero, List.set_cons_succ])
    refine wpList_val (by rw [hO]; kernel_rfl) (.bool false) (fun K9 hK9 => by go_simp; exact hK9) ?_
    (try simp only [Act.put, List.setIfInBounds_toArray, List.set_cons_zero, List.set_cons_succ])
    refine wpList_val (by rw [hO]; kernel_rfl) (.bool false) (fun K9 hK9 => by go_simp; exact hK9) ?_
    (try simp only [Act.put, List.setIfInBounds_toArray, List.set_cons_zero, List.set_cons_succ])
    refine wpList_val (by rw [hO]; kernel_rfl) (.bool false) (fun K9 hK9 => by go_simp; exact hK9) ?_
    (try simp only [Act.put, List.setIfInBounds_toArray, List.set_cons_zero, List.set_cons_succ])
    refine wpList_val (by rw [hO]; kernel_rfl) (.pointer (some ⟨w.heap.size, 34, none⟩)) (fun K9 hK9 => by go_simp; exact hK9) ?_
    (try simp only [Act.put, List.setIfInBounds_toArray, List.set_cons_zero, List.set_cons_succ])
    refine wpList_val (by rw [hO]; kernel_rfl) (.string TA) (fun K9 hK9 => by go_simp; exact hK9) ?_
    (try simp only [Act.put, List.setIfInBounds_toArray, List.set_cons_zero, List.set_cons_succ])
    refine wpList_val (by rw [hO]; kernel_rfl) (.int .i64 (na : Int)) (fun K9 hK9 => by go_simp; exact hK9) ?_
    (try simp only [Act.put, List.setIfInBounds_toArray, List.set_cons_zero, List.set_cons_succ])
    refine wpList_val (by rw [hO]; kernel_rfl) (.pointer (some ⟨w.heap.size, 35, none⟩)) (fun K9 hK9 => by go_simp; exact hK9) ?_
    (try simp only [Act.put, List.setIfInBounds_toArray, List.set_cons_zero, List.set_cons_succ])
    refine wpList_val (by rw [hO]; kernel_rfl) (.string TX) (fun K9 hK9 => by go_simp; exact hK9) ?_
    (try simp only [Act.put, List.setIfInBounds_toArray, List.set_cons_zero, List.set_cons_succ])
    refine wpList_val (by rw [hO]; kernel_rfl) (.int .i64 (nx : Int)) (fun K9 hK9 => by go_simp; exact hK9) ?_
    (try simp only [Act.put, List.setIfInBounds_toArray, List.set_cons_zero, List.set_cons_succ])
    refine wpList_val (by rw [hO]; kernel_rfl) (.int .i64 ((na : Int) + (nx : Int))) (fun K9 hK9 => by go_simp; exact hK9) ?_
    (try simp only [Act.put, List.setIfInBounds_toArray, List.set_cons_zero, List.set_cons_succ])
    refine wpList_val (by rw [hO]; kernel_rfl) (.bool false) (fun K9 hK9 => by go_simp; exact hK9) ?_
    (try simp only [Act.put, List.setIfInBounds_toArray, List.set_cons_zero, List.set_cons_succ])
    refine wpList_val (by rw [hO]; kernel_rfl) (.bool false) (fun K9 hK9 => by go_simp; exact hK9) ?_
    (try simp only [Act.put, List.setIfInBounds_toArray, List.set_cons_zero, List.set_cons_succ])
    refine wpList_val (by rw [hO]; kernel_rfl) (.bool false) (fun K9 hK9 => by go_simp; exact hK9) ?_
    (try simp only [Act.put, List.setIfInBounds_toArray, List.set_cons_zero, List.set_cons_succ])
    refine wpList_val (by rw [hO]; kernel_rfl) (.pointer (some ⟨w.heap.size + 1, 32, none⟩)) (fun K9 hK9 => by go_simp; exact hK9) ?_
    (try simp only [Act.put, List.setIfInBounds_toArray, List.set_cons_zero, List.set_cons_succ])
    refine wpList_val (by rw [hO]; kernel_rfl) (.string TN) (fun K9 hK9 => by go_simp; exact hK9) ?_
    (try simp only [Act.put, List.setIfInBounds_toArray, List.set_cons_zero, List.set_cons_succ])
    refine wpList_val (by rw [hO]; kernel_rfl) (.int .i64 (nn : Int)) (fun K9 hK9 => by go_simp; exact hK9) ?_
    (try simp only [Act.put, List.setIfInBounds_toArray, List.set_cons_zero, List.set_cons_succ])
    refine wpList_val (by rw [hO]; kernel_rfl) (.pointer (some ⟨w.heap.size + 1, 33, none⟩)) (fun K9 hK9 => by go_simp; exact hK9) ?_
    (try simp only [Act.put, List.setIfInBounds_toArray, List.set_cons_zero, List.set_cons_succ])
    refine wpList_val (by rw [hO]; kernel_rfl) (.string TY) (fun K9 hK9 => by go_simp; exact hK9) ?_
    (try simp only [Act.put, List.setIfInBounds_toArray, List.set_cons_zero, List.set_cons_succ])
    refine wpList_val (by rw [hO]; kernel_rfl) (.int .i64 (ny : Int)) (fun K9 hK9 => by go_simp; exact hK9) ?_
    (try simp only [Act.put, List.setIfInBounds_toArray, List.set_cons_zero, List.set_cons_succ])
    refine wpList_val (by rw [hO]; kernel_rfl) (.int .i64 ((nn : Int) + (ny : Int))) (fun K9 hK9 => by go_simp; exact hK9) ?_
    (try simp only [Act.put, List.setIfInBounds_toArray, List.set_cons_zero, List.set_cons_succ])
    refine wpList_val (by rw [hO]; kernel_rfl) (.bool true) (fun K9 hK9 => by go_simp; exact hK9) ?_
    (try simp only [Act.put, List.setIfInBounds_toArray, List.set_cons_zero, List.set_cons_succ])
    refine wpList_val (by rw [hO]; kernel_rfl) (.bool true) (fun K9 hK9 => by go_simp; exact hK9) ?_
    (try simp only [Act.put, List.setIfInBounds_toArray, List.set_cons_zero, List.set_cons_succ])
    go_wp2
    go_ret
    exact ⟨rfl, G0⟩
  have HJC : Hid ((Try.prog.info? 28).map (·.size) = some CC.length) := hide (by rw [hCl]; exact info_chg)
  have HJM : Hid ((Try.prog.info? 30).map (·.size) = some MC.length) := hide (by rw [hMl]; exact info_mrk)
  obtain ⟨⟨Y1, D1⟩, hY1⟩ : ∃ r, r = ofTree es := ⟨_, rfl⟩
  obtain ⟨⟨Y2, D2⟩, hY2⟩ : ∃ r, r = ofChg cg := ⟨_, rfl⟩
  obtain ⟨⟨Y3, D3⟩, hY3⟩ : ∃ r, r = ofMrk mk := ⟨_, rfl⟩
  obtain ⟨K1, hK1⟩ : ∃ K : Int, K = if Y1 = 0 then 2 else 0 := ⟨_, rfl⟩
  obtain ⟨K2, hK2⟩ : ∃ K : Int, K = if Y2 = 0 then 3 else 0 := ⟨_, rfl⟩
  obtain ⟨K3, hK3⟩ : ∃ K : Int, K = if Y3 = 0 then 4 else 0 := ⟨_, rfl⟩
  obtain ⟨m1, hm1⟩ : ∃ n, n = D1.length := ⟨_, rfl⟩
  obtain ⟨m2, hm2⟩ : ∃ n, n = D2.length := ⟨_, rfl⟩
  obtain ⟨m3, hm3⟩ : ∃ n, n = D3.length := ⟨_, rfl⟩
  obtain ⟨S1, hS1⟩ : ∃ S, S = str D1 := ⟨_, rfl⟩
  obtain ⟨S2, hS2⟩ : ∃ S, S = str D2 := ⟨_, rfl⟩
  obtain ⟨S3, hS3⟩ : ∃ S, S = str D3 := ⟨_, rfl⟩
  have HT : Hid (∀ V, w.grownBy V none → Calls Try.prog 6 #[.slice ao n c] V fun e w' => ∃ a c, e = .returned (.tuple #[.agg #[.int .i64 K1, .slice a m1 c], .int .i64 Y1]) ∧ Bts w' a c D1 ∧ V.grownBy w' none) := hide fun V gV => by
    have z := (ofTree_any V ao c es (hE.none gV) hs).mono fun _ _ h => made_open h
    rw [← hn, ← hY1] at z
    simpa only [← hK1, ← hm1] using z
  have HC : Hid (∀ V, w.grownBy V none → Calls Try.prog 9 #[.agg CC.toArray] V fun e w' => ∃ a c, e = .returned (.tuple #[.agg #[.int .i64 K2, .slice a m2 c], .int .i64 Y2]) ∧ Bts w' a c D2 ∧ V.grownBy w' none) := hide fun V gV => by
    have z := (ofChg_any V cg po pc (hP.none gV) ht (by omega) (by omega) (by omega)).mono fun _ _ h => made_open h
    rw [← hCC, ← hY2] at z
    simpa only [← hK2, ← hm2] using z
  have HM : Hid (∀ V, w.grownBy V none → Calls Try.prog 12 #[.agg MC.toArray] V fun e w' => ∃ a c, e = .returned (.tuple #[.agg #[.int .i64 K3, .slice a m3 c], .int .i64 Y3]) ∧ Bts w' a c D3 ∧ V.grownBy w' none) := hide fun V gV => by
    have z := (ofMrk_any V mk hmt (by omega) (by omega)).mono fun _ _ h => made_open h
    rw [← hMC, ← hY3] at z
    simpa only [← hK3, ← hm3] using z
  have HEN : Hid (∀ V, w.grownBy V none → Calls Try.prog 8 #[.slice ao n c] V fun e w' => ∃ ro rc, e = .returned (.slice ro n rc) ∧ Rens w' ro rc es ∧ V.grownBy w' none) := hide fun V gV => by
    have z := lentries_any V ao c es (hE.none gV) (by omega)
    rw [← hn] at z
    refine z.mono ?_
    rintro e w' ⟨v, rfl, ho, g⟩
    rw [hn] at ho
    obtain ⟨ro, rc, rfl, hR⟩ := Rens.own ho
    exact ⟨ro, rc, by rw [hn], hR, g⟩
  have HCH : Hid (∀ V, w.grownBy V none → Calls Try.prog 11 #[.agg CC.toArray] V fun e w' => ∃ xo xc, e = .returned (.agg (rcC cg xo xc).toArray) ∧ Stl w' V.heap.size xo xc cg.pars ∧ V.grownBy w' none) := hide fun V gV => by
    rw [hCC]; exact lchange_any V cg po pc (hP.none gV) ht (by omega)
  have HRCH : Hid (∀ V xo xc base, Stl V base xo xc cg.pars → Calls Try.prog 10 #[.agg (rcC cg xo xc).toArray] V fun e w' => e = .returned (.tuple #[.agg #[.int .i64 K2, .string S2], .int .i64 Y2]) ∧ V.grownBy w' none) := hide fun V xo xc base hS => by
    have z := rofChg_any V cg xo xc base hS (by omega) (fun x hx => by have := hP.ids x hx; omega) (by omega) htm (by omega) (by omega)
    unfold RMade at z
    rw [← hY2] at z
    simpa only [← hK2, ← hS2] using z
  obtain ⟨RM, hRM⟩ : ∃ C, C = rmC mk := ⟨_, rfl⟩
  have HMK : Hid (∀ V : World, Calls Try.prog 14 #[.agg MC.toArray] V fun e w' => e = .returned (.agg RM.toArray) ∧ V.grownBy w' none) := hide fun V => by
    rw [hMC, hRM]; exact lmark_any V mk hmt
  have HRMK : Hid (∀ V : World, Calls Try.prog 13 #[.agg RM.toArray] V fun e w' => e = .returned (.tuple #[.agg #[.int .i64 K3, .string S3], .int .i64 Y3]) ∧ V.grownBy w' none) := hide fun V => by
    have z := rofMrk_any V mk (by omega) (by omega) (by omega)
    unfold RMade at z
    rw [← hY3] at z
    rw [hRM]
    simpa only [← hK3, ← hS3] using z
  have HE := hide hE
  have HS := hide hs
  have HN := hide hn
  have HM1 := hide hm1
  have HM2 := hide hm2
  have HM3 := hide hm3
  have HS1 := hide hS1
  have HS2 := hide hS2
  have HS3 := hide hS3
  have HY1 := hide hY1
  have HK1 := hide hK1
  have HG := hide G0
  have hn40 : n ≤ 40 := by omega
  clear hE hs hP ha hx hma hmx hn hp hna hnx hnn hny hCC hMC hY1 hY2 hY3 hK1 hK2 hK3 hm1 hm2 hm3 hS1 hS2 hS3 hRM ht htm hmt hCl hMl G0
  go_enter Try.func3, Try.ntmps3
  go_upto_region 1 with (rw [← unhide HW])
  refine region_named fun O hO => ?_
  refine wpList_val (by rw [hO]; kernel_rfl) (.slice ao n c) (fun K9 hK9 => by go_simp; exact hK9) ?_
  (try simp only [Act.put, List.setIfInBounds_toArray, List.set_cons_zero, List.set_cons_succ])
  refine wpList_val (by rw [hO]; kernel_rfl) (.int .i64 (n : Int)) (fun K9 hK9 => by go_simp; exact hK9) ?_
  (try simp only [Act.put, List.setIfInBounds_toArray, List.set_cons_zero, List.set_cons_succ])
  refine wpList_val (by rw [hO]; kernel_rfl) (.bool false) (fun K9 hK9 => by go_simp; exact hK9) ?_
  (try simp only [Act.put, List.setIfInBounds_toArray, List.set_cons_zero, List.set_cons_succ])
  refine wpList_val (by rw [hO]; kernel_rfl) (.bool false) (fun K9 hK9 => by go_simp; exact hK9) ?_
  (try simp only [Act.put, List.setIfInBounds_toArray, List.set_cons_zero, List.set_cons_succ])
  refine wpList_val (by rw [hO]; kernel_rfl) (.pointer (some ⟨w.heap.size, 32, none⟩)) (fun K9 hK9 => by go_simp; exact hK9) ?_
  (try simp only [Act.put, List.setIfInBounds_toArray, List.set_cons_zero, List.set_cons_succ])
  refine wpList_val (by rw [hO]; kernel_rfl) (.slice po p pc) (fun K9 hK9 => by go_simp; exact hK9) ?_
  (try simp only [Act.put, List.setIfInBounds_toArray, List.set_cons_zero, List.set_cons_succ])
  refine wpList_val (by rw [hO]; kernel_rfl) (.int .i64 (p : Int)) (fun K9 hK9 => by go_simp; exact hK9) ?_
  (try simp only [Act.put, List.setIfInBounds_toArray, List.set_cons_zero, List.set_cons_succ])
  refine wpList_val (by rw [hO]; kernel_rfl) (.bool false) (fun K9 hK9 => by go_simp; exact hK9) ?_
  (try simp only [Act.put, List.setIfInBounds_toArray, List.set_cons_zero, List.set_cons_succ])
  refine wpList_val (by rw [hO]; kernel_rfl) (.bool false) (fun K9 hK9 => by go_simp; exact hK9) ?_
  (try simp only [Act.put, List.setIfInBounds_toArray, List.set_cons_zero, List.set_cons_succ])
  refine wpList_val (by rw [hO]; kernel_rfl) (.bool false) (fun K9 hK9 => by go_simp; exact hK9) ?_
  (try simp only [Act.put, List.setIfInBounds_toArray, List.set_cons_zero, List.set_cons_succ])
  refine wpList_val (by rw [hO]; kernel_rfl) (.pointer (some ⟨w.heap.size, 34, none⟩)) (fun K9 hK9 => by go_simp; exact hK9) ?_
  (try simp only [Act.put, List.setIfInBounds_toArray, List.set_cons_zero, List.set_cons_succ])
  refine wpList_val (by rw [hO]; kernel_rfl) (.string TA) (fun K9 hK9 => by go_simp; exact hK9) ?_
  (try simp only [Act.put, List.setIfInBounds_toArray, List.set_cons_zero, List.set_cons_succ])
  refine wpList_val (by rw [hO]; kernel_rfl) (.int .i64 (na : Int)) (fun K9 hK9 => by go_simp; exact hK9) ?_
  (try simp only [Act.put, List.setIfInBounds_toArray, List.set_cons_zero, List.set_cons_succ])
  refine wpList_val (by rw [hO]; kernel_rfl) (.pointer (some ⟨w.heap.size, 35, none⟩)) (fun K9 hK9 => by go_simp; exact hK9) ?_
  (try simp only [Act.put, List.setIfInBounds_toArray, List.set_cons_zero, List.set_cons_succ])
  refine wpList_val (by rw [hO]; kernel_rfl) (.string TX) (fun K9 hK9 => by go_simp; exact hK9) ?_
  (try simp only [Act.put, List.setIfInBounds_toArray, List.set_cons_zero, List.set_cons_succ])
  refine wpList_val (by rw [hO]; kernel_rfl) (.int .i64 (nx : Int)) (fun K9 hK9 => by go_simp; exact hK9) ?_
  (try simp only [Act.put, List.setIfInBounds_toArray, List.set_cons_zero, List.set_cons_succ])
  refine wpList_val (by rw [hO]; kernel_rfl) (.int .i64 ((na : Int) + (nx : Int))) (fun K9 hK9 => by go_simp; exact hK9) ?_
  (try simp only [Act.put, List.setIfInBounds_toArray, List.set_cons_zero, List.set_cons_succ])
  refine wpList_val (by rw [hO]; kernel_rfl) (.bool false) (fun K9 hK9 => by go_simp; exact hK9) ?_
  (try simp only [Act.put, List.setIfInBounds_toArray, List.set_cons_zero, List.set_cons_succ])
  refine wpList_val (by rw [hO]; kernel_rfl) (.bool false) (fun K9 hK9 => by go_simp; exact hK9) ?_
  (try simp only [Act.put, List.setIfInBounds_toArray, List.set_cons_zero, List.set_cons_succ])
  refine wpList_val (by rw [hO]; kernel_rfl) (.bool false) (fun K9 hK9 => by go_simp; exact hK9) ?_
  (try simp only [Act.put, List.setIfInBounds_toArray, List.set_cons_zero, List.set_cons_succ])
  refine wpList_val (by rw [hO]; kernel_rfl) (.pointer (some ⟨w.heap.size + 1, 32, none⟩)) (fun K9 hK9 => by go_simp; exact hK9) ?_
  (try simp only [Act.put, List.setIfInBounds_toArray, List.set_cons_zero, List.set_cons_succ])
  refine wpList_val (by rw [hO]; kernel_rfl) (.string TN) (fun K9 hK9 => by go_simp; exact hK9) ?_
  (try simp only [Act.put, List.setIfInBounds_toArray, List.set_cons_zero, List.set_cons_succ])
  refine wpList_val (by rw [hO]; kernel_rfl) (.int .i64 (nn : Int)) (fun K9 hK9 => by go_simp; exact hK9) ?_
  (try simp only [Act.put, List.setIfInBounds_toArray, List.set_cons_zero, List.set_cons_succ])
  refine wpList_val (by rw [hO]; kernel_rfl) (.pointer (some ⟨w.heap.size + 1, 33, none⟩)) (fun K9 hK9 => by go_simp; exact hK9) ?_
  (try simp only [Act.put, List.setIfInBounds_toArray, List.set_cons_zero, List.set_cons_succ])
  refine wpList_val (by rw [hO]; kernel_rfl) (.string TY) (fun K9 hK9 => by go_simp; exact hK9) ?_
  (try simp only [Act.put, List.setIfInBounds_toArray, List.set_cons_zero, List.set_cons_succ])
  refine wpList_val (by rw [hO]; kernel_rfl) (.int .i64 (ny : Int)) (fun K9 hK9 => by go_simp; exact hK9) ?_
  (try simp only [Act.put, List.setIfInBounds_toArray, List.set_cons_zero, List.set_cons_succ])
  refine wpList_val (by rw [hO]; kernel_rfl) (.int .i64 ((nn : Int) + (ny : Int))) (fun K9 hK9 => by go_simp; exact hK9) ?_
  (try simp only [Act.put, List.setIfInBounds_toArray, List.set_cons_zero, List.set_cons_succ])
  refine wpList_val (by rw [hO]; kernel_rfl) (.bool false) (fun K9 hK9 => by go_simp; exact hK9) ?_
  (try simp only [Act.put, List.setIfInBounds_toArray, List.set_cons_zero, List.set_cons_succ])
  refine wpList_val (by rw [hO]; kernel_rfl) (.bool false) (fun K9 hK9 => by go_simp; exact hK9) ?_
  (try simp only [Act.put, List.setIfInBounds_toArray, List.set_cons_zero, List.set_cons_succ])
  clear HW k1 k3 k4 k5 k6 zA zX zN zY vA vX vN vY wA wN h1 h2 h3 h4
  go_wp2_with fail
  go_loopw [7, 8] (fun s i wr => ∃ j : Nat, i = .int .i64 j ∧ j ≤ n ∧ (∃ u : Nat, s = .int .i64 u ∧ u ≤ 20000 ∧ Hid (sumN (es.take j) = u)) ∧ W0.grownBy wr none) (fun _ i _ => n - (intOf i).toNat)
  case atStart => exact ⟨0, rfl, Nat.zero_le _, ⟨0, rfl, by omega, rfl⟩, gb_refl _ _⟩
  case round =>
    obtain ⟨j, rfl, hj, ⟨u, rfl, hu, HU⟩, hg⟩ := hrel
    by_cases hlt : j < n
    · have hl : j < es.length := by have := unhide HN; omega
      obtain ⟨b, o, e1, hr⟩ := ((unhide HE).none (tn (unhide HG) hg)).at j hl
      have hr1 := hr j hl
      have hln := unhide HS _ (List.getElem_mem hl)
      have hst := sumN_take es j hl
      obtain ⟨E, hEE⟩ : ∃ E, E = es[j] := ⟨_, rfl⟩
      rw [← hEE] at hr1 hln hst
      have hc0 : wr.cell? ⟨b, o + j * 34, none⟩ = some (.string (str E.name)) := hr1 0 _ rfl
      obtain ⟨TE, hTE⟩ : ∃ T, T = str E.name := ⟨_, rfl⟩
      rw [← hTE] at hc0
      obtain ⟨l, hlE⟩ : ∃ l, l = E.name.length := ⟨_, rfl⟩
      have zE : TE.size = l := by rw [hTE, str_size, hlE]
      rw [← hlE] at hln hst
      rw [unhide HU] at hst
      subst e1
      by_cases hbig : (20000 : Int) < (u : Int) + (l : Int)
      · clear hr hr1 hst hEE hTE hlE hl HU
        go_wp2
        go_ret
        exact ⟨rfl, tn (unhide HG) hg⟩
      · have HST := hide hst
        clear hr hr1 hst hEE hTE hlE hl HU
        go_wp2
        go_roundw
        case rel => exact ⟨j + 1, by go_num, by omega, ⟨u + l, by go_num, by omega, HST⟩, hg⟩
        case measure => simp [intOf]; omega
    · have hsm : ∀ e ∈ es, e.name.length ≤ 20000 := fun e he => by
        have h5 := unhide HU
        rw [List.take_of_length_le (by have := unhide HN; omega)] at h5
        have := sumN_le es e he
        omega
      have HRT : Hid (∀ V ro rc, Rens V ro rc es → Calls Try.prog 7 #[.slice ro n rc] V fun e w' => e = .returned (.tuple #[.agg #[.int .i64 K1, .string S1], .int .i64 Y1]) ∧ V.grownBy w' none) := hide fun V ro rc hR => by
        have z := rofTree_any V ro rc es hR (fun e he => by have := hsm e he; omega) (fun e he => by have := (unhide HE).ids e he; omega) (by have := unhide HN; omega)
        unfold RMade at z
        rw [← unhide HN, ← unhide HY1] at z
        simpa only [← unhide HK1, ← unhide HS1] using z
      replace HG := hide (tn (unhide HG) hg)
      replace HRC := hide (range_kept (unhide HRC) hg (by simp))
      replace HRM := hide (range_kept (unhide HRM) hg (by simp))
      clear hsm hg HU
      go_wp2_with fail
      refine (unhide HT wr (unhide HG)).mono ?_
      rintro e w1 ⟨a1, c1, rfl, hb1, g1⟩
      obtain ⟨W1, hW, hB, gW⟩ : ∃ W, W = w1.alloc (.cells #[.int .i64 K1, .slice a1 m1 c1] 35) ∧ Blk W w1.heap.size 35 [.int .i64 K1, .slice a1 m1 c1] ∧ w1.grownBy W none := box_new w1 _ _
      have gT := tn g1 gW
      replace HG := hide (tn (unhide HG) gT)
      replace HRC := hide (range_kept (unhide HRC) gT (by simp))
      replace HRM := hide (range_kept (unhide HRM) gT (by simp))
      have HB1 := hide hB
      have HD1 := hide (hb1.kept gW (fun _ e => by cases e))
      have HW := hide hW
      clear hB hW hb1 g1 gW gT
      go_wp2_with (rw [← unhide HW])
      clear HW
      refine (unhide HEN W1 (unhide HG)).mono ?_
      rintro e w2 ⟨ro, rc, rfl, hR, g⟩
      replace HG := hide (tn (unhide HG) g)
      replace HRC := hide (range_kept (unhide HRC) g (by simp))
      replace HRM := hide (range_kept (unhide HRM) g (by simp))
      replace HB1 := hide ((unhide HB1).kept g (by simp))
      replace HD1 := hide ((unhide HD1).kept g (fun _ e => by cases e))
      have HR := hide hR
      clear hR g
      go_wp2_with fail
      refine (unhide HRT w2 ro rc (unhide HR)).mono ?_
      clear HR
      rintro e w3 ⟨rfl, g1⟩
      obtain ⟨W3, hW, hB, gW⟩ : ∃ W, W = w3.alloc (.cells #[.int .i64 K1, .string S1] 40) ∧ Blk W w3.heap.size 40 [.int .i64 K1, .string S1] ∧ w3.grownBy W none := box_new w3 _ _
      have gT := tn g1 gW
      replace HG := hide (tn (unhide HG) gT)
      replace HRC := hide (range_kept (unhide HRC) gT (by simp))
      replace HRM := hide (range_kept (unhide HRM) gT (by simp))
      replace HB1 := hide ((unhide HB1).kept gT (by simp))
      replace HD1 := hide ((unhide HD1).kept gT (fun _ e => by cases e))
      have HC1 := hide hB
      have HW := hide hW
      clear hB hW g1 gW gT
      go_wp2_with (first | rw [← unhide HW] | (have hr9 := unhide HRC; refine wpList_load_mid rfl 28 _ rfl w.heap.size 0 rfl CC _ hr9 Try.underlying28 rfl (unhide HJC) ?_; clear hr9))
      clear HW
      refine (unhide HC W3 (unhide HG)).mono ?_
      rintro e w4 ⟨a2, c2, rfl, hb2, g2⟩
      obtain ⟨W4, hW, hB, gW⟩ : ∃ W, W = w4.alloc (.cells #[.int .i64 K2, .slice a2 m2 c2] 35) ∧ Blk W w4.heap.size 35 [.int .i64 K2, .slice a2 m2 c2] ∧ w4.grownBy W none := box_new w4 _ _
      have gT := tn g2 gW
      replace HG := hide (tn (unhide HG) gT)
      replace HRC := hide (range_kept (unhide HRC) gT (by simp))
      replace HRM := hide (range_kept (unhide HRM) gT (by simp))
      replace HB1 := hide ((unhide HB1).kept gT (by simp))
      replace HD1 := hide ((unhide HD1).kept gT (fun _ e => by cases e))
      replace HC1 := hide ((unhide HC1).kept gT (by simp))
      have HB2 := hide hB
      have HD2 := hide (hb2.kept gW (fun _ e => by cases e))
      have HW := hide hW
      clear hB hW hb2 g2 gW gT
      go_wp2_with (first | rw [← unhide HW] | (have hr9 := unhide HRC; refine wpList_load_mid rfl 28 _ rfl w.heap.size 0 rfl CC _ hr9 Try.underlying28 rfl (unhide HJC) ?_; clear hr9))
      clear HW
      refine (unhide HCH W4 (unhide HG)).mono ?_
      rintro e w5 ⟨xo, xc, rfl, hR, g⟩
      replace HG := hide (tn (unhide HG) g)
      replace HRC := hide (range_kept (unhide HRC) g (by simp))
      replace HRM := hide (range_kept (unhide HRM) g (by simp))
      replace HB1 := hide ((unhide HB1).kept g (by simp))
      replace HD1 := hide ((unhide HD1).kept g (fun _ e => by cases e))
      replace HC1 := hide ((unhide HC1).kept g (by simp))
      replace HB2 := hide ((unhide HB2).kept g (by simp))
      replace HD2 := hide ((unhide HD2).kept g (fun _ e => by cases e))
      have HR := hide hR
      clear hR g
      obtain ⟨XC, hXC⟩ : ∃ C, C = rcC cg xo xc := ⟨_, rfl⟩
      rw [← hXC]
      have cR := unhide HRCH w5 xo xc W4.heap.size (unhide HR)
      rw [← hXC] at cR
      clear HR hXC
      go_wp2_with fail
      refine cR.mono ?_
      clear cR
      rintro e w6 ⟨rfl, g2⟩
      obtain ⟨W6, hW, hB, gW⟩ : ∃ W, W = w6.alloc (.cells #[.int .i64 K2, .string S2] 40) ∧ Blk W w6.heap.size 40 [.int .i64 K2, .string S2] ∧ w6.grownBy W none := box_new w6 _ _
      have gT := tn g2 gW
      replace HG := hide (tn (unhide HG) gT)
      replace HRC := hide (range_kept (unhide HRC) gT (by simp))
      replace HRM := hide (range_kept (unhide HRM) gT (by simp))
      replace HB1 := hide ((unhide HB1).kept gT (by simp))
      replace HD1 := hide ((unhide HD1).kept gT (fun _ e => by cases e))
      replace HC1 := hide ((unhide HC1).kept gT (by simp))
      replace HB2 := hide ((unhide HB2).kept gT (by simp))
      replace HD2 := hide ((unhide HD2).kept gT (fun _ e => by cases e))
      have HC2 := hide hB
      have HW := hide hW
      clear hB hW g2 gW gT
      go_wp2_with (first | rw [← unhide HW] | (have hr9 := unhide HRM; refine wpList_load_mid rfl 30 _ rfl (w.heap.size + 1) 0 rfl MC _ hr9 Try.underlying30 rfl (unhide HJM) ?_; clear hr9))
      clear HW
      refine (unhide HM W6 (unhide HG)).mono ?_
      rintro e w7 ⟨a3, c3, rfl, hb3, g3⟩
      obtain ⟨W7, hW, hB, gW⟩ : ∃ W, W = w7.alloc (.cells #[.int .i64 K3, .slice a3 m3 c3] 35) ∧ Blk W w7.heap.size 35 [.int .i64 K3, .slice a3 m3 c3] ∧ w7.grownBy W none := box_new w7 _ _
      have gT := tn g3 gW
      replace HG := hide (tn (unhide HG) gT)
      replace HRC := hide (range_kept (unhide HRC) gT (by simp))
      replace HRM := hide (range_kept (unhide HRM) gT (by simp))
      replace HB1 := hide ((unhide HB1).kept gT (by simp))
      replace HD1 := hide ((unhide HD1).kept gT (fun _ e => by cases e))
      replace HC1 := hide ((unhide HC1).kept gT (by simp))
      replace HB2 := hide ((unhide HB2).kept gT (by simp))
      replace HD2 := hide ((unhide HD2).kept gT (fun _ e => by cases e))
      replace HC2 := hide ((unhide HC2).kept gT (by simp))
      have HB3 := hide hB
      have HD3 := hide (hb3.kept gW (fun _ e => by cases e))
      have HW := hide hW
      clear hB hW hb3 g3 gW gT
      go_wp2_with (first | rw [← unhide HW] | (have hr9 := unhide HRM; refine wpList_load_mid rfl 30 _ rfl (w.heap.size + 1) 0 rfl MC _ hr9 Try.underlying30 rfl (unhide HJM) ?_; clear hr9))
      clear HW
      refine (unhide HMK W7).mono ?_
      rintro e w8 ⟨rfl, g⟩
      replace HG := hide (tn (unhide HG) g)
      replace HRC := hide (range_kept (unhide HRC) g (by simp))
      replace HRM := hide (range_kept (unhide HRM) g (by simp))
      replace HB1 := hide ((unhide HB1).kept g (by simp))
      replace HD1 := hide ((unhide HD1).kept g (fun _ e => by cases e))
      replace HC1 := hide ((unhide HC1).kept g (by simp))
      replace HB2 := hide ((unhide HB2).kept g (by simp))
      replace HD2 := hide ((unhide HD2).kept g (fun _ e => by cases e))
      replace HC2 := hide ((unhide HC2).kept g (by simp))
      replace HB3 := hide ((unhide HB3).kept g (by simp))
      replace HD3 := hide ((unhide HD3).kept g (fun _ e => by cases e))
      clear g
      go_wp2_with fail
      refine (unhide HRMK w8).mono ?_
      rintro e w9 ⟨rfl, g3⟩
      obtain ⟨W9, hW, hB, gW⟩ : ∃ W, W = w9.alloc (.cells #[.int .i64 K3, .string S3] 40) ∧ Blk W w9.heap.size 40 [.int .i64 K3, .string S3] ∧ w9.grownBy W none := box_new w9 _ _
      have gT := tn g3 gW
      replace HG := hide (tn (unhide HG) gT)
      replace HRC := hide (range_kept (unhide HRC) gT (by simp))
      replace HRM := hide (range_kept (unhide HRM) gT (by simp))
      replace HB1 := hide ((unhide HB1).kept gT (by simp))
      replace HD1 := hide ((unhide HD1).kept gT (fun _ e => by cases e))
      replace HC1 := hide ((unhide HC1).kept gT (by simp))
      replace HB2 := hide ((unhide HB2).kept gT (by simp))
      replace HD2 := hide ((unhide HD2).kept gT (fun _ e => by cases e))
      replace HC2 := hide ((unhide HC2).kept gT (by simp))
      replace HB3 := hide ((unhide HB3).kept gT (by simp))
      replace HD3 := hide ((unhide HD3).kept gT (fun _ e => by cases e))
      have HC3 := hide hB
      have HW := hide hW
      clear hB hW g3 gW gT
      have p10 := (unhide HB1).cell 0
      have p11 := (unhide HB1).cell 1
      have q10 := (unhide HC1).cell 0
      have q11 := (unhide HC1).cell 1
      have p20 := (unhide HB2).cell 0
      have p21 := (unhide HB2).cell 1
      have q20 := (unhide HC2).cell 0
      have q21 := (unhide HC2).cell 1
      have p30 := (unhide HB3).cell 0
      have p31 := (unhide HB3).cell 1
      have q30 := (unhide HC3).cell 0
      have q31 := (unhide HC3).cell 1
      simp only [List.getElem?_cons_zero, List.getElem?_cons_succ] at p10 p11 p20 p21 p30 p31 q10 q11 q20 q21 q30 q31
      have HOW1 : Hid (∀ V, W9.grownBy V none → Calls Try.prog 15 #[.agg #[.int .i64 K1, .slice a1 m1 c1]] V fun e w' => e = .returned (.agg #[.int .i64 K1, .string S1]) ∧ V.grownBy w' none) := hide fun V gV => by
        have z := lown_any V K1 a1 c1 D1 ((unhide HD1).kept gV (fun _ e => by cases e))
        rwa [← unhide HM1, ← unhide HS1] at z
      have HOW2 : Hid (∀ V, W9.grownBy V none → Calls Try.prog 15 #[.agg #[.int .i64 K2, .slice a2 m2 c2]] V fun e w' => e = .returned (.agg #[.int .i64 K2, .string S2]) ∧ V.grownBy w' none) := hide fun V gV => by
        have z := lown_any V K2 a2 c2 D2 ((unhide HD2).kept gV (fun _ e => by cases e))
        rwa [← unhide HM2, ← unhide HS2] at z
      have HOW3 : Hid (∀ V, W9.grownBy V none → Calls Try.prog 15 #[.agg #[.int .i64 K3, .slice a3 m3 c3]] V fun e w' => e = .returned (.agg #[.int .i64 K3, .string S3]) ∧ V.grownBy w' none) := hide fun V gV => by
        have z := lown_any V K3 a3 c3 D3 ((unhide HD3).kept gV (fun _ e => by cases e))
        rwa [← unhide HM3, ← unhide HS3] at z
      have h0 : W9.grownBy W9.drew none := gb_drew (gb_refl _ _)
      go_upto_region 16 with (rw [← unhide HW])
      clear HW
      refine wp_region_noPanic ?_
      refine wp_region_held_drew (S := fun V => W9.grownBy V none) (by kernel_rfl) h0 (fun _ => ?_)
      obtain ⟨WD, hWD⟩ : ∃ V, V = W9.drew := ⟨_, rfl⟩
      rw [← hWD]
      rw [← hWD] at h0
      clear hWD
      refine wpAnyH_take (i := 0) (oi := { dst := some 99, op := Op.load 35 (Operand.tmp 9), type := _, pos := _, after := _, guard := _ }) (v := .agg #[.int .i64 K1, .slice a1 m1 c1]) rfl (by kernel_rfl) (by kernel_rfl) (by kernel_rfl) (fun _ _ _ h => h) (Or.inl ⟨by rfl, fun V (hV : W9.grownBy V none) => by (have z8 := hV.cell p10 (by simp); have z9 := hV.cell p11 (by simp); go_simp)⟩) h0 ?_
      (try simp only [Act.put, List.setIfInBounds_toArray, List.set_cons_zero, List.set_cons_succ])
      refine wpAnyH_take (i := 2) (oi := { dst := some 101, op := Op.load 40 (Operand.tmp 11), type := _, pos := _, after := _, guard := _ }) (v := .agg #[.int .i64 K1, .string S1]) rfl (by kernel_rfl) (by kernel_rfl) (by kernel_rfl) (fun _ _ _ h => h) (Or.inl ⟨by rfl, fun V (hV : W9.grownBy V none) => by (have z8 := hV.cell q10 (by simp); have z9 := hV.cell q11 (by simp); go_simp)⟩) h0 ?_
      (try simp only [Act.put, List.setIfInBounds_toArray, List.set_cons_zero, List.set_cons_succ])
      refine wpAnyH_ready (rs := [1]) (by kernel_rfl) (by simp) ?_
      refine AllReadyH.cons (o := { dst := some 100, op := Op.call { callee := Callee.value (Operand.func 15), args := #[(Operand.tmp 99)], argTypes := #[35] }, type := _, pos := _, after := _, guard := _ }) rfl (fun K9 hK9 => ?_) AllReadyH.nil
      go_simp
      go_at_call 15
      refine (unhide HOW1 WD h0).mono ?_
      rintro e wc1 ⟨rfl, gc1⟩
      go_wp2_with fail
      have hh2 := tn h0 gc1
      refine hK9.out _ _ hh2 (fun _ => ?_)
      clear hK9 K9
      (try simp only [Act.put, List.setIfInBounds_toArray, List.set_cons_zero, List.set_cons_succ])
      refine wpAnyH_take (i := 3) (oi := { dst := some 102, op := Op.binOp BinOp.eql 40 (Operand.tmp 100) (Operand.tmp 101) 40, type := _, pos := _, after := _, guard := _ }) (v := .bool true) rfl (by kernel_rfl) (by kernel_rfl) (by kernel_rfl) (fun _ _ _ h => h) (yieldsIf_same (by rfl) _ _ _ _ rfl _ _ _ rfl rfl guard_robj (fun V => eql_robj V K1 S1)) hh2 ?_
      (try simp only [Act.put, List.setIfInBounds_toArray, List.set_cons_zero, List.set_cons_succ])
      refine wpAnyH_take (i := 4) (oi := { dst := some 103, op := Op.move (Operand.tmp 102), type := _, pos := _, after := _, guard := _ }) (v := .bool true) rfl (by kernel_rfl) (by kernel_rfl) (by kernel_rfl) (fun _ _ _ h => h) (Or.inl ⟨by rfl, fun V (hV : W9.grownBy V none) => by go_simp⟩) hh2 ?_
      (try simp only [Act.put, List.setIfInBounds_toArray, List.set_cons_zero, List.set_cons_succ])
      refine wpAnyH_take (i := 5) (oi := { dst := some 104, op := Op.move (Operand.tmp 10), type := _, pos := _, after := _, guard := _ }) (v := .int .i64 Y1) rfl (by kernel_rfl) (by kernel_rfl) (by kernel_rfl) (fun _ _ _ h => h) (Or.inl ⟨by rfl, fun V (hV : W9.grownBy V none) => by go_simp⟩) hh2 ?_
      (try simp only [Act.put, List.setIfInBounds_toArray, List.set_cons_zero, List.set_cons_succ])
      refine wpAnyH_take (i := 6) (oi := { dst := some 105, op := Op.move (Operand.tmp 12), type := _, pos := _, after := _, guard := _ }) (v := .int .i64 Y1) rfl (by kernel_rfl) (by kernel_rfl) (by kernel_rfl) (fun _ _ _ h => h) (Or.inl ⟨by rfl, fun V (hV : W9.grownBy V none) => by go_simp⟩) hh2 ?_
      (try simp only [Act.put, List.setIfInBounds_toArray, List.set_cons_zero, List.set_cons_succ])
      refine wpAnyH_take (i := 7) (oi := { dst := some 106, op := Op.binOp BinOp.eql 3 (Operand.tmp 104) (Operand.tmp 105) 3, type := _, pos := _, after := _, guard := _ }) (v := .bool true) rfl (by kernel_rfl) (by kernel_rfl) (by kernel_rfl) (fun _ _ _ h => h) (Or.inl ⟨by rfl, fun V (hV : W9.grownBy V none) => by go_simp⟩) hh2 ?_
      (try simp only [Act.put, List.setIfInBounds_toArray, List.set_cons_zero, List.set_cons_succ])
      refine wpAnyH_take (i := 8) (oi := { dst := some 107, op := Op.pick (Operand.tmp 103) (Operand.tmp 106) (Operand.const (Value.bool false)), type := _, pos := _, after := _, guard := _ }) (v := .bool true) rfl (by kernel_rfl) (by kernel_rfl) (by kernel_rfl) (fun _ _ _ h => h) (Or.inl ⟨by rfl, fun V (hV : W9.grownBy V none) => by go_simp⟩) hh2 ?_
      (try simp only [Act.put, List.setIfInBounds_toArray, List.set_cons_zero, List.set_cons_succ])
      refine wpAnyH_take (i := 9) (oi := { dst := some 108, op := Op.move (Operand.tmp 107), type := _, pos := _, after := _, guard := _ }) (v := .bool true) rfl (by kernel_rfl) (by kernel_rfl) (by kernel_rfl) (fun _ _ _ h => h) (Or.inl ⟨by rfl, fun V (hV : W9.grownBy V none) => by go_simp⟩) hh2 ?_
      (try simp only [Act.put, List.setIfInBounds_toArray, List.set_cons_zero, List.set_cons_succ])
      refine wpAnyH_take (i := 10) (oi := { dst := some 109, op := Op.load 35 (Operand.tmp 13), type := _, pos := _, after := _, guard := _ }) (v := .agg #[.int .i64 K2, .slice a2 m2 c2]) rfl (by kernel_rfl) (by kernel_rfl) (by kernel_rfl) (fun _ _ _ h => h) (Or.inl ⟨by rfl, fun V (hV : W9.grownBy V none) => by (have z8 := hV.cell p20 (by simp); have z9 := hV.cell p21 (by simp); go_simp)⟩) hh2 ?_
      (try simp only [Act.put, List.setIfInBounds_toArray, List.set_cons_zero, List.set_cons_succ])
      refine wpAnyH_take (i := 12) (oi := { dst := some 111, op := Op.load 40 (Operand.tmp 15), type := _, pos := _, after := _, guard := _ }) (v := .agg #[.int .i64 K2, .string S2]) rfl (by kernel_rfl) (by kernel_rfl) (by kernel_rfl) (fun _ _ _ h => h) (Or.inl ⟨by rfl, fun V (hV : W9.grownBy V none) => by (have z8 := hV.cell q20 (by simp); have z9 := hV.cell q21 (by simp); go_simp)⟩) hh2 ?_
      (try simp only [Act.put, List.setIfInBounds_toArray, List.set_cons_zero, List.set_cons_succ])
      refine wpAnyH_ready (rs := [11]) (by kernel_rfl) (by simp) ?_
      refine AllReadyH.cons (o := { dst := some 110, op := Op.call { callee := Callee.value (Operand.func 15), args := #[(Operand.tmp 109)], argTypes := #[35] }, type := _, pos := _, after := _, guard := _ }) rfl (fun K9 hK9 => ?_) AllReadyH.nil
      go_simp
      go_at_call 15
      refine (unhide HOW2 wc1 hh2).mono ?_
      rintro e wc3 ⟨rfl, gc3⟩
      go_wp2_with fail
      have hh4 := tn hh2 gc3
      refine hK9.out _ _ hh4 (fun _ => ?_)
      clear hK9 K9
      (try simp only [Act.put, List.setIfInBounds_toArray, List.set_cons_zero, List.set_cons_succ])
      refine wpAnyH_take (i := 13) (oi := { dst := some 112, op := Op.binOp BinOp.eql 40 (Operand.tmp 110) (Operand.tmp 111) 40, type := _, pos := _, after := _, guard := _ }) (v := .bool true) rfl (by kernel_rfl) (by kernel_rfl) (by kernel_rfl) (fun _ _ _ h => h) (yieldsIf_same (by rfl) _ _ _ _ rfl _ _ _ rfl rfl guard_robj (fun V => eql_robj V K2 S2)) hh4 ?_
      (try simp only [Act.put, List.setIfInBounds_toArray, List.set_cons_zero, List.set_cons_succ])
      refine wpAnyH_take (i := 14) (oi := { dst := some 113, op := Op.pick (Operand.tmp 108) (Operand.tmp 112) (Operand.const (Value.bool false)), type := _, pos := _, after := _, guard := _ }) (v := .bool true) rfl (by kernel_rfl) (by kernel_rfl) (by kernel_rfl) (fun _ _ _ h => h) (Or.inl ⟨by rfl, fun V (hV : W9.grownBy V none) => by go_simp⟩) hh4 ?_
      (try simp only [Act.put, List.setIfInBounds_toArray, List.set_cons_zero, List.set_cons_succ])
      refine wpAnyH_take (i := 15) (oi := { dst := some 114, op := Op.move (Operand.tmp 113), type := _, pos := _, after := _, guard := _ }) (v := .bool true) rfl (by kernel_rfl) (by kernel_rfl) (by kernel_rfl) (fun _ _ _ h => h) (Or.inl ⟨by rfl, fun V (hV : W9.grownBy V none) => by go_simp⟩) hh4 ?_
      (try simp only [Act.put, List.setIfInBounds_toArray, List.set_cons_zero, List.set_cons_succ])
      refine wpAnyH_take (i := 16) (oi := { dst := some 115, op := Op.move (Operand.tmp 14), type := _, pos := _, after := _, guard := _ }) (v := .int .i64 Y2) rfl (by kernel_rfl) (by kernel_rfl) (by kernel_rfl) (fun _ _ _ h => h) (Or.inl ⟨by rfl, fun V (hV : W9.grownBy V none) => by go_simp⟩) hh4 ?_
      (try simp only [Act.put, List.setIfInBounds_toArray, List.set_cons_zero, List.set_cons_succ])
      refine wpAnyH_take (i := 17) (oi := { dst := some 116, op := Op.move (Operand.tmp 16), type := _, pos := _, after := _, guard := _ }) (v := .int .i64 Y2) rfl (by kernel_rfl) (by kernel_rfl) (by kernel_rfl) (fun _ _ _ h => h) (Or.inl ⟨by rfl, fun V (hV : W9.grownBy V none) => by go_simp⟩) hh4 ?_
      (try simp only [Act.put, List.setIfInBounds_toArray, List.set_cons_zero, List.set_cons_succ])
      refine wpAnyH_take (i := 18) (oi := { dst := some 117, op := Op.binOp BinOp.eql 3 (Operand.tmp 115) (Operand.tmp 116) 3, type := _, pos := _, after := _, guard := _ }) (v := .bool true) rfl (by kernel_rfl) (by kernel_rfl) (by kernel_rfl) (fun _ _ _ h => h) (Or.inl ⟨by rfl, fun V (hV : W9.grownBy V none) => by go_simp⟩) hh4 ?_
      (try simp only [Act.put, List.setIfInBounds_toArray, List.set_cons_zero, List.set_cons_succ])
      refine wpAnyH_take (i := 19) (oi := { dst := some 118, op := Op.pick (Operand.tmp 114) (Operand.tmp 117) (Operand.const (Value.bool false)), type := _, pos := _, after := _, guard := _ }) (v := .bool true) rfl (by kernel_rfl) (by kernel_rfl) (by kernel_rfl) (fun _ _ _ h => h) (Or.inl ⟨by rfl, fun V (hV : W9.grownBy V none) => by go_simp⟩) hh4 ?_
      (try simp only [Act.put, List.setIfInBounds_toArray, List.set_cons_zero, List.set_cons_succ])
      refine wpAnyH_take (i := 20) (oi := { dst := some 119, op := Op.move (Operand.tmp 118), type := _, pos := _, after := _, guard := _ }) (v := .bool true) rfl (by kernel_rfl) (by kernel_rfl) (by kernel_rfl) (fun _ _ _ h => h) (Or.inl ⟨by rfl, fun V (hV : W9.grownBy V none) => by go_simp⟩) hh4 ?_
      (try simp only [Act.put, List.setIfInBounds_toArray, List.set_cons_zero, List.set_cons_succ])
      refine wpAnyH_take (i := 21) (oi := { dst := some 120, op := Op.load 35 (Operand.tmp 17), type := _, pos := _, after := _, guard := _ }) (v := .agg #[.int .i64 K3, .slice a3 m3 c3]) rfl (by kernel_rfl) (by kernel_rfl) (by kernel_rfl) (fun _ _ _ h => h) (Or.inl ⟨by rfl, fun V (hV : W9.grownBy V none) => by (have z8 := hV.cell p30 (by simp); have z9 := hV.cell p31 (by simp); go_simp)⟩) hh4 ?_
      (try simp only [Act.put, List.setIfInBounds_toArray, List.set_cons_zero, List.set_cons_succ])
      refine wpAnyH_take (i := 23) (oi := { dst := some 122, op := Op.load 40 (Operand.tmp 19), type := _, pos := _, after := _, guard := _ }) (v := .agg #[.int .i64 K3, .string S3]) rfl (by kernel_rfl) (by kernel_rfl) (by kernel_rfl) (fun _ _ _ h => h) (Or.inl ⟨by rfl, fun V (hV : W9.grownBy V none) => by (have z8 := hV.cell q30 (by simp); have z9 := hV.cell q31 (by simp); go_simp)⟩) hh4 ?_
      (try simp only [Act.put, List.setIfInBounds_toArray, List.set_cons_zero, List.set_cons_succ])
      refine wpAnyH_ready (rs := [22]) (by kernel_rfl) (by simp) ?_
      refine AllReadyH.cons (o := { dst := some 121, op := Op.call { callee := Callee.value (Operand.func 15), args := #[(Operand.tmp 120)], argTypes := #[35] }, type := _, pos := _, after := _, guard := _ }) rfl (fun K9 hK9 => ?_) AllReadyH.nil
      go_simp
      go_at_call 15
      refine (unhide HOW3 wc3 hh4).mono ?_
      rintro e wc5 ⟨rfl, gc5⟩
      go_wp2_with fail
      have hh6 := tn hh4 gc5
      refine hK9.out _ _ hh6 (fun _ => ?_)
      clear hK9 K9
      (try simp only [Act.put, List.setIfInBounds_toArray, List.set_cons_zero, List.set_cons_succ])
      refine wpAnyH_take (i := 24) (oi := { dst := some 123, op := Op.binOp BinOp.eql 40 (Operand.tmp 121) (Operand.tmp 122) 40, type := _, pos := _, after := _, guard := _ }) (v := .bool true) rfl (by kernel_rfl) (by kernel_rfl) (by kernel_rfl) (fun _ _ _ h => h) (yieldsIf_same (by rfl) _ _ _ _ rfl _ _ _ rfl rfl guard_robj (fun V => eql_robj V K3 S3)) hh6 ?_
      (try simp only [Act.put, List.setIfInBounds_toArray, List.set_cons_zero, List.set_cons_succ])
      refine wpAnyH_take (i := 25) (oi := { dst := some 124, op := Op.pick (Operand.tmp 119) (Operand.tmp 123) (Operand.const (Value.bool false)), type := _, pos := _, after := _, guard := _ }) (v := .bool true) rfl (by kernel_rfl) (by kernel_rfl) (by kernel_rfl) (fun _ _ _ h => h) (Or.inl ⟨by rfl, fun V (hV : W9.grownBy V none) => by go_simp⟩) hh6 ?_
      (try simp only [Act.put, List.setIfInBounds_toArray, List.set_cons_zero, List.set_cons_succ])
      refine wpAnyH_take (i := 26) (oi := { dst := some 125, op := Op.move (Operand.tmp 124), type := _, pos := _, after := _, guard := _ }) (v := .bool true) rfl (by kernel_rfl) (by kernel_rfl) (by kernel_rfl) (fun _ _ _ h => h) (Or.inl ⟨by rfl, fun V (hV : W9.grownBy V none) => by go_simp⟩) hh6 ?_
      (try simp only [Act.put, List.setIfInBounds_toArray, List.set_cons_zero, List.set_cons_succ])
      refine wpAnyH_take (i := 27) (oi := { dst := some 126, op := Op.move (Operand.tmp 18), type := _, pos := _, after := _, guard := _ }) (v := .int .i64 Y3) rfl (by kernel_rfl) (by kernel_rfl) (by kernel_rfl) (fun _ _ _ h => h) (Or.inl ⟨by rfl, fun V (hV : W9.grownBy V none) => by go_simp⟩) hh6 ?_
      (try simp only [Act.put, List.setIfInBounds_toArray, List.set_cons_zero, List.set_cons_succ])
      refine wpAnyH_take (i := 28) (oi := { dst := some 127, op := Op.move (Operand.tmp 20), type := _, pos := _, after := _, guard := _ }) (v := .int .i64 Y3) rfl (by kernel_rfl) (by kernel_rfl) (by kernel_rfl) (fun _ _ _ h => h) (Or.inl ⟨by rfl, fun V (hV : W9.grownBy V none) => by go_simp⟩) hh6 ?_
      (try simp only [Act.put, List.setIfInBounds_toArray, List.set_cons_zero, List.set_cons_succ])
      refine wpAnyH_take (i := 29) (oi := { dst := some 128, op := Op.binOp BinOp.eql 3 (Operand.tmp 126) (Operand.tmp 127) 3, type := _, pos := _, after := _, guard := _ }) (v := .bool true) rfl (by kernel_rfl) (by kernel_rfl) (by kernel_rfl) (fun _ _ _ h => h) (Or.inl ⟨by rfl, fun V (hV : W9.grownBy V none) => by go_simp⟩) hh6 ?_
      (try simp only [Act.put, List.setIfInBounds_toArray, List.set_cons_zero, List.set_cons_succ])
      refine wpAnyH_take (i := 30) (oi := { dst := some 129, op := Op.pick (Operand.tmp 125) (Operand.tmp 128) (Operand.const (Value.bool false)), type := _, pos := _, after := _, guard := _ }) (v := .bool true) rfl (by kernel_rfl) (by kernel_rfl) (by kernel_rfl) (fun _ _ _ h => h) (Or.inl ⟨by rfl, fun V (hV : W9.grownBy V none) => by go_simp⟩) hh6 ?_
      (try simp only [Act.put, List.setIfInBounds_toArray, List.set_cons_zero, List.set_cons_succ])
      refine wpAnyH_take (i := 31) (oi := { dst := some 130, op := Op.move (Operand.tmp 129), type := _, pos := _, after := _, guard := _ }) (v := .bool true) rfl (by kernel_rfl) (by kernel_rfl) (by kernel_rfl) (fun _ _ _ h => h) (Or.inl ⟨by rfl, fun V (hV : W9.grownBy V none) => by go_simp⟩) hh6 ?_
      (try simp only [Act.put, List.setIfInBounds_toArray, List.set_cons_zero, List.set_cons_succ])
      refine wpAnyH_ready (rs := [32]) (by kernel_rfl) (by simp) ?_
      refine AllReadyH.cons (o := { dst := some 131, op := Op.call { callee := Callee.value (Operand.func 16), args := #[], argTypes := #[] }, type := _, pos := _, after := _, guard := _ }) rfl (fun K9 hK9 => ?_) AllReadyH.nil
      go_simp
      go_at_call 16
      refine (oone_any wc5).mono ?_
      rintro e wc7 ⟨rfl, gc7⟩
      go_wp2_with fail
      have hh8 := tn hh6 gc7
      refine hK9.out _ _ hh8 (fun _ => ?_)
      clear hK9 K9
      (try simp only [Act.put, List.setIfInBounds_toArray, List.set_cons_zero, List.set_cons_succ])
      refine wpAnyH_take (i := 33) (oi := { dst := some 132, op := Op.pick (Operand.tmp 130) (Operand.tmp 131) (Operand.const (Value.bool false)), type := _, pos := _, after := _, guard := _ }) (v := .bool true) rfl (by kernel_rfl) (by kernel_rfl) (by kernel_rfl) (fun _ _ _ h => h) (Or.inl ⟨by rfl, fun V (hV : W9.grownBy V none) => by go_simp⟩) hh8 ?_
      (try simp only [Act.put, List.setIfInBounds_toArray, List.set_cons_zero, List.set_cons_succ])
      refine wpAnyH_take (i := 34) (oi := { dst := some 6, op := Op.assign (Operand.tmp 132), type := _, pos := _, after := _, guard := _ }) (v := .bool true) rfl (by kernel_rfl) (by kernel_rfl) (by kernel_rfl) (fun _ _ _ h => h) (Or.inl ⟨by rfl, fun V (hV : W9.grownBy V none) => by go_simp⟩) hh8 ?_
      (try simp only [Act.put, List.setIfInBounds_toArray, List.set_cons_zero, List.set_cons_succ])
      refine wpAnyH_done (by kernel_rfl) ?_ _
      refine NoPanic.normal ?_
      go_wp2
      go_ret
      exact ⟨rfl, tn (unhide HG) hh8⟩

end Go.Proofs.Ytcemdlcimhoeeaa
