/- What object's OfMark answers. Of names of at most 100000 bytes, and texts of at most 1000000. -/
import Derived.Test.YtcemdlcimhoeeaaOChgM
namespace Go.Proofs.Ytcemdlcimhoeeaa
open Go.RowKit

set_option maxRecDepth 100000 in
set_option maxHeartbeats 4000000 in
theorem ofMrk_any (w : World) (m : MrkL) (ht : m.target.length = 32) (ha : m.name.length ≤ 100000) (hx : m.text.length ≤ 1000000) :
    Calls Try.prog 12 #[.agg (mkC m).toArray] w fun e w' => Made w w' 4 (ofMrk m) e := by
  obtain ⟨q1, q2⟩ := mkC_at m ht
  obtain ⟨C, hC⟩ : ∃ C, C = mkC m := ⟨_, rfl⟩
  rw [← hC] at q1 q2 ⊢
  obtain ⟨W0, hW0, hB0, g0⟩ := box_new w 30 C
  have hW1 : ∃ W1, W1 = W0.alloc (.cells #[.int .i64 0, .slice none 0 0] 35) ∧ Blk W1 (w.heap.size + 1) 35 [.int .i64 0, .slice none 0 0] ∧ W0.grownBy W1 none := by
    refine ⟨_, rfl, ?_, gb_alloc (gb_refl _ _) _⟩
    have hsz : W0.heap.size = w.heap.size + 1 := by rw [hW0]; simp
    rw [← hsz]
    exact Blk.new W0 _ _
  obtain ⟨W1, hW1, hB1, g1⟩ := hW1
  have hBC := hB0.kept g1 (by simp)
  have G1 := tn g0 g1
  have c1 : W1.cell? ⟨w.heap.size, 32, none⟩ = some (.string (str m.name)) := by rw [hBC.cell 32, q1]
  have c2 : W1.cell? ⟨w.heap.size, 33, none⟩ = some (.string (str m.text)) := by rw [hBC.cell 33, q2]
  have hW : W1 = (w.alloc (.cells C.toArray 30)).alloc (.cells #[.int .i64 0, .slice none 0 0] 35) := by rw [hW1, hW0]
  have hrT : W1.rangeAt w.heap.size 0 (m.target.map bv) := by
    have := blk_all hBC
    rw [hC] at this
    exact mk_target this
  have ck := kind_any W1 m.name ha
  have hiT : (Try.prog.info? 24).map (·.size) = some (m.target.map bv).length := by rw [List.length_map, ht]; exact info_id
  have hbt := built_chg3 m.target (str m.name) (str m.text) ht
  have cl : ∀ V, Calls Try.prog 32 #[.int .i64 4, .agg (m.target.map bv ++ ([.slice none 0 0, .int .u64 0, .string (str m.name), .string (str m.text)] : List Value)).toArray] V fun e w' => ∃ v, e = .returned v ∧ NewB V w' v (mrkB m) ∧ V.grownBy w' none := fun V => layMrk_any V m ht (by omega) hx
  obtain ⟨T, hT⟩ : ∃ T, T = m.target.map bv := ⟨_, rfl⟩
  obtain ⟨N, hN⟩ : ∃ N, N = str m.name := ⟨_, rfl⟩
  obtain ⟨X, hX⟩ : ∃ N, N = str m.text := ⟨_, rfl⟩
  rw [← hN] at c1 ck hbt cl
  rw [← hX] at c2 hbt cl
  rw [← hT] at hrT hiT hbt cl
  obtain ⟨CC, hCC⟩ : ∃ CC, CC = (T ++ ([.slice none 0 0, .int .u64 0, .string N, .string X] : List Value)).toArray := ⟨_, rfl⟩
  rw [← hCC] at hbt cl
  obtain ⟨k, hk⟩ : ∃ k, k = kindL m.name := ⟨_, rfl⟩
  rw [← hk] at ck
  have HW := hide hW
  have HI := hide hiT
  have HBT := hide hbt
  have HG1 := hide G1
  have HCL := hide cl
  clear hW1 hW0 g1 g0 hB0 q1 q2 hW hC hT hN hX hCC hBC hiT hbt G1 ht ha hx cl
  by_cases h2 : k = 2
  · have hres : ofMrk m = fitB (mrkB m) := by simp [ofMrk, ← hk, h2]
    subst h2
    have HRS := hide hres
    have HB1 := hide hB1
    clear hres hk hB1
    go_enter Try.func12, Try.ntmps12
    go_wp2_with (rw [← unhide HW])
    refine ck.mono ?_
    rintro e w2 ⟨rfl, g2⟩
    have d1 := g2.cell c1 (by simp)
    have d2 := g2.cell c2 (by simp)
    have hr2 := range_kept hrT g2 (by simp)
    have cl := unhide HCL w2
    clear ck c1 c2 hrT HCL
    go_wp2_with (first
      | (refine wpList_load_mid rfl 24 _ rfl w.heap.size 0 rfl T _ hr2 Try.underlying24 rfl (unhide HI) ?_; clear hr2)
      | (refine wpList_built rfl 28 _ rfl CC ?hbs ?_))
    case hbs => simpa using unhide HBT
    refine cl.mono ?_
    rintro e w3 ⟨v3, rfl, hN3, g3⟩
    have G := tn (unhide HG1) g2
    have hBr := ((unhide HB1).kept g2 (by simp)).kept g3 (by simp)
    have cm := made_fit w w3 4 v3 (mrkB m) (NewB.later hN3 G.size) (tn G g3)
    obtain ⟨r, hr⟩ : ∃ r, r = fitB (mrkB m) := ⟨_, rfl⟩
    rw [← hr] at cm
    have HRR := hide hr
    clear cl hN3 g3 hr d1 d2
    go_wp2_with fail
    refine cm.mono ?_
    rintro e w4 ⟨v4, x, rfl, hx, hN4, h1c, g4, gm⟩
    have hB2 := hBr.kept gm (by simp)
    have hrr : ofMrk m = r := by rw [unhide HRS, unhide HRR]
    have hfin := Made.laid (K := 4) hB2 (by decide) (Nat.le_succ _) hx hN4 g4
    obtain ⟨K, hK⟩ : ∃ K : Int, K = (if r.1 = 0 then 4 else 0) := ⟨_, rfl⟩
    rw [← hK] at hfin ⊢
    have HF := hide hfin
    have HRX := hide hrr
    clear cm hK hx hBr hfin hrr
    go_wp2_with (refine wpList_store_row rfl 35 _ _ rfl (w.heap.size + 1) #[.int .i64 K, v4] rfl rfl _ _ hB2 info_obj rfl (obj_one h1c) ?_)
    refine bodyPost_ret (results_row_tmp rfl _ _ _ _ _ _ _ rfl (hB2.row [.int .i64 K, v4]) Try.underlying35 rfl info_obj) rfl ?_
    rw [unhide HRX]
    exact unhide HF
  · have hres : ofMrk m = (2, []) := by simp [ofMrk, ← hk, h2]
    have hk2 : (k == 2) = false := by simpa using h2
    have HRS := hide hres
    clear hres hk
    go_enter Try.func12, Try.ntmps12
    go_wp2_with (rw [← unhide HW])
    refine ck.mono ?_
    rintro e w2 ⟨rfl, g2⟩
    have hBr := hB1.kept g2 (by simp)
    have hf0 := hBr.fz 0
    have hf1 := hBr.fz 1
    have hd0 := hBr.cell 0
    have hd1 := hBr.cell 1
    simp only [List.getElem?_cons_zero, List.getElem?_cons_succ] at hd0 hd1
    clear ck c1 c2 hrT
    go_wp2
    refine bodyPost_ret (results_row_tmp rfl _ _ _ _ _ _ _ rfl ((hBr.set 0 (.int .i64 0)).set 1 (.slice none 0 0)) Try.underlying35 rfl info_obj) rfl ?_
    exact Made.bad 4 (unhide HRS) (by decide) (gb_setCell (gb_setCell (tn (unhide HG1) g2) _ _ (Or.inl (Nat.le_succ _))) _ _ (Or.inl (Nat.le_succ _)))

end Go.Proofs.Ytcemdlcimhoeeaa
