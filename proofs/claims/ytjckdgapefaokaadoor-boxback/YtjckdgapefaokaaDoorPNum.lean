/- What poly's carried, plus and fold answer of numbers by five limbs. No condition but the bounds that each lemma names. -/
import Derived.Test.YtjckdgapefaokaaDoorKEqual
import Derived.Test.YtjckdgapefaokaaDoorPLimb
import Derived.Laws.ResultCell
import Derived.Laws.BitsAllLaws
namespace Go.Proofs.YtjckdgapefaokaaDoor
open Go.RowKit

/-- A limb as a cell holds it. -/
def nv (n : Nat) : Value := .int .u64 (n : Int)
theorem nv_one (l : List Nat) : ∀ u ∈ l.map nv, u.oneCell' = true := by
  intro u hu
  obtain ⟨_, _, rfl⟩ := List.mem_map.1 hu
  rfl
/-- A number as a value. -/
def num (n : List Nat) : Value := .agg (n.map nv).toArray
def zero5L : List Nat := List.replicate 5 0
theorem zero5 (w : World) : (zeroValue 132).run Tryd.prog w = .ok (.agg (zero5L.map nv).toArray) w := by kernel_rfl
theorem size_limb (w : World) : (Go.sizeOf 75).run Tryd.prog w = .ok 1 w := by kernel_rfl
theorem agg_limb (w : World) : (isAgg 75).run Tryd.prog w = .ok false w := by kernel_rfl
theorem info5 : (Tryd.prog.info? 132).map (·.size) = some 5 := by kernel_rfl
theorem nv_at (n : List Nat) (k : Nat) (h : k < n.length) : (n.map nv)[k]? = some (.int .u64 (n.getD k 0 : Nat)) := by
  rw [List.getElem?_map, List.getElem?_eq_getElem h, show n.getD k 0 = n[k] by simp [List.getD, h]]; rfl
theorem num_size (n : List Nat) (h : n.length = 5) : ((n.map nv).toArray).size = 5 := by simp [h]
theorem info5n (n : List Nat) (h : n.length = 5) : (Tryd.prog.info? 132).map (·.size) = some ((n.map nv).toArray).size := by rw [num_size n h]; exact info5

/-- What a call hands out: a row, and a value beside it. -/
theorem results_row_tmp {P : Program} {fn : Func} {p u : Tmp} {ty : TypeId} (h : fn.results = #[.cell p ty, .tmp u]) (tmps : Array Value) (w : World) (g : Nat) (t : TypeId) (cs : Array Value) (fr : Nat × Nat) (d : TypeDesc)
    (hp : tmps.getD p undef = .pointer (some ⟨g, 0, none⟩)) (hg : w.heap[g]? = some (.cells cs t fr))
    (hu : P.underlying ty = some d) (hd : (match d with | .struct _ | .array _ _ => true | _ => false) = true) (hi : (P.info? ty).map (·.size) = some cs.size) :
    (results fn tmps).run P w = .ok (.tuple #[.agg cs, tmps.getD u undef]) w := by
  rw [results_cell_tmp h, hp]
  simp [asAddr, run_loadVar_row w g t ty cs fr d hg hu hd hi]

/-- The limb's part of a word. -/
theorem mask26 (x : Nat) (h : x < 2 ^ 63) : bits .and .u64 (x : Int) 67108863 = ((x % 67108864 : Nat) : Int) := by
  have := u64_and_nat x 67108863 (by omega) (by omega)
  rw [show ((67108863 : Nat) : Int) = 67108863 from rfl] at this
  rw [this, show (67108863 : Nat) = 2 ^ 26 - 1 from rfl, Nat.and_two_pow_sub_one_eq_mod]

set_option maxRecDepth 100000 in
set_option maxHeartbeats 1000000 in
theorem carried5_any (w : World) (n : List Nat) (hn : n.length = 5) (hb : ∀ k, n.getD k 0 < 2 ^ 62) :
    Calls Tryd.prog 76 #[num n] w fun e w' => e = .returned (.tuple #[num (cutL n), nv (ovr n 5)]) ∧ w.grownBy w' none := by
  obtain ⟨A, hA⟩ : ∃ A : Array Value, A = (n.map nv).toArray := ⟨_, rfl⟩
  obtain ⟨Z, hZ⟩ : ∃ A : Array Value, A = (zero5L.map nv).toArray := ⟨_, rfl⟩
  have hz := zero5
  rw [← hZ] at hz
  have hidx : ∀ k : Nat, k < 5 → ∀ W, (Instr.index 132 (.agg A) (.int .i64 (k : Int))).run Tryd.prog W = .ok (.int .u64 (n.getD k 0 : Nat)) W := fun k hk W => by
    rw [hA]; exact index_row 132 75 5 (n.map nv) k _ Tryd.underlying132 size_limb agg_limb hk (nv_at n k (by omega)) W
  obtain ⟨W1, hW1⟩ : ∃ W1, W1 = (w.alloc (.cells A 132)).alloc (.cells Z 132) := ⟨_, rfl⟩
  have hg : w.grownBy W1 none := by rw [hW1]; exact gb_alloc (gb_alloc (gb_refl _ _) _) _
  have hB1 : Blk W1 w.heap.size 132 (n.map nv) := by rw [hW1, hA]; exact (Blk.new w 132 _).alloc _
  have hR1 : Blk W1 (w.heap.size + 1) 132 ((stepL 5 0 (cutD n) (fun _ => 0)).map nv) := by
    have := Blk.new (w.alloc (.cells A 132)) 132 (zero5L.map nv)
    rw [World.size_alloc] at this
    rw [hW1, hZ]; exact this
  have ho := ovr_lt n hb
  show Calls Tryd.prog 76 #[.agg (n.map nv).toArray] w _
  rw [← hA]
  have hAs : (Tryd.prog.info? 132).map (·.size) = some A.size := by rw [hA]; exact info5n n hn
  have hB1' : W1.heap[w.heap.size]? = some (.cells A 132 (0, 0)) := by rw [hA]; exact hB1
  have HN := hide hn
  have HA := hide hA
  have HZ := hide hZ
  have HW1 := hide hW1
  have HB := hide hB1'
  have HR := hide hR1
  have HAS := hide hAs
  have HIDX := hide hidx
  have HBD := hide hb
  have HO := hide ho
  clear hn hA hZ hW1 hB1 hR1 hAs hB1' hidx hb ho
  go_enter Tryd.func76, Tryd.ntmps76
  go_wp2_with (rw [← unhide HW1]; refine wpList_load_row rfl 132 _ rfl w.heap.size rfl _ _ _ _ (unhide HB) Tryd.underlying132 rfl ?_ ?_; (exact unhide HAS))
  go_loopw [3, 7] (fun o i wr => ∃ k : Nat, k ≤ 5 ∧ i = .int .i64 (k : Int) ∧ o = .int .u64 (ovr n k : Nat) ∧ Blk wr (w.heap.size + 1) 132 ((stepL 5 k (cutD n) (fun _ => 0)).map nv) ∧ w.grownBy wr none) (fun _ i _ => 5 - (intOf i).toNat)
  case atStart => exact ⟨0, Nat.zero_le _, rfl, rfl, unhide HR, hg⟩
  case round =>
    clear HB HR hg HW1
    obtain ⟨k, hk, rfl, rfl, hR, hg⟩ := hrel
    by_cases hlt : k < 5
    · have hq0 : (0 : Int) ≤ (k : Int) := by omega
      have hq1 : (k : Int) < 5 := by omega
      have hx := unhide HIDX k hlt
      have b1 := unhide HBD k
      have b2 := unhide HO k
      obtain ⟨x, hxe⟩ : ∃ x, x = n.getD k 0 := ⟨_, rfl⟩
      obtain ⟨o, hoe⟩ : ∃ o, o = ovr n k := ⟨_, rfl⟩
      rw [← hxe] at hx b1
      rw [← hoe] at b2 ⊢
      have hm := mask26 (x + o) (by omega)
      have e1 : ((x : Int) + (o : Int)) % 18446744073709551616 = ((x + o : Nat) : Int) := by omega
      have e2 : IntKind.u64.wrap ((x : Int) + (o : Int)) = ((x + o : Nat) : Int) := by rw [IntKind.wrap_u64]; omega
      have e3 : ((x + o : Nat) : Int) / 67108864 = (((x + o) / 67108864 : Nat) : Int) := by omega
      have hfz := hR.fz k
      have hc : wr.cell? ⟨w.heap.size + 1, k, none⟩ = some (.int .u64 (0 : Int)) := by
        rw [hR.cell, List.getElem?_map, stepL_at _ _ _ _ _ hlt, if_neg (by omega)]; rfl
      have HXE := hide hxe
      have HOE := hide hoe
      have HR := hide hR
      clear hxe hoe hR b1 b2
      go_wp2
      go_roundw
      case rel =>
        have hS := (unhide HR).set k (nv (cutD n k))
        rw [← List.map_set, stepL_set] at hS
        have ec : nv (cutD n k) = .int .u64 (bits BinOp.and IntKind.u64 ((x : Int) + (o : Int)) 67108863) := by
          rw [show ((x : Int) + (o : Int)) = ((x + o : Nat) : Int) by omega, hm, cutD, ← unhide HXE, ← unhide HOE]; rfl
        rw [ec] at hS
        refine ⟨k + 1, by omega, by go_num, ?_, hS, gb_setCell hg _ _ (Or.inl (by simp))⟩
        rw [ovr, ← unhide HXE, ← unhide HOE, ← e3]
        rfl
      case measure => simp [intOf]; omega
    · obtain rfl : k = 5 := by omega
      rw [stepL_all] at hR
      rw [show ((5 : Nat) : Int) = 5 from rfl]
      obtain ⟨C, hC⟩ : ∃ C, C = cutL n := ⟨_, rfl⟩
      have hR2 : Blk wr (w.heap.size + 1) 132 (C.map nv) := by rw [hC]; exact hR
      have hCl : C.length = 5 := by rw [hC]; exact cutL_length n
      have hi := info5n C hCl
      have hS := hR2.row (C.map nv)
      have hG : w.grownBy (wr.setRow (w.heap.size + 1) (C.map nv).toArray) none := gb_row hg _ (Or.inl (by omega))
      have HR := hide hR2
      have HI := hide hi
      have HC := hide hC
      have HCL := hide hCl
      have HS := hide hS
      have HG := hide hG
      clear hR2 hi hC hCl hS hG hR
      go_wp2_with (first
        | (refine wpList_load_row rfl 132 _ rfl (w.heap.size + 1) rfl _ _ _ _ (unhide HR) Tryd.underlying132 rfl ?_ ?_; (exact unhide HI))
        | (refine wpList_store_row rfl 132 _ _ rfl (w.heap.size + 1) _ rfl rfl _ _ (unhide HR) ?_ ?_ ?_ ?_; (exact unhide HI); rfl; (exact all_oneCell_toArray (nv_one _))))
      refine bodyPost_ret (v := .tuple #[num C, nv (ovr n 5)]) ((results_row_tmp (fn := Tryd.f76) (g := w.heap.size + 1) rfl _ _ _ _ _ _ ?_ (unhide HS) Tryd.underlying132 rfl (unhide HI)).trans ?_) rfl ⟨by rw [unhide HC], unhide HG⟩
      · rfl
      · rfl

set_option maxRecDepth 100000 in
set_option maxHeartbeats 1000000 in
/-- Limbs are added one by one. -/
theorem plus5_any (w : World) (a b : List Nat) (ha : a.length = 5) (hb : b.length = 5) (hs : ∀ k, a.getD k 0 + b.getD k 0 < 2 ^ 63) :
    Calls Tryd.prog 75 #[num a, num b] w fun e w' => e = .returned (num ((List.range 5).map fun i => a.getD i 0 + b.getD i 0)) ∧ w.grownBy w' none := by
  obtain ⟨A, hA⟩ : ∃ A : Array Value, A = (a.map nv).toArray := ⟨_, rfl⟩
  obtain ⟨B, hB⟩ : ∃ A : Array Value, A = (b.map nv).toArray := ⟨_, rfl⟩
  obtain ⟨Z, hZ⟩ : ∃ A : Array Value, A = (zero5L.map nv).toArray := ⟨_, rfl⟩
  have hz := zero5
  rw [← hZ] at hz
  obtain ⟨W1, hW1⟩ : ∃ W1, W1 = ((w.alloc (.cells A 132)).alloc (.cells B 132)).alloc (.cells Z 132) := ⟨_, rfl⟩
  have hg : w.grownBy W1 none := by rw [hW1]; exact gb_alloc (gb_alloc (gb_alloc (gb_refl _ _) _) _) _
  have hA1 : Blk W1 w.heap.size 132 ((stepL 5 0 (fun i => a.getD i 0 + b.getD i 0) (fun i => a.getD i 0)).map nv) := by
    rw [hW1, hA, stepL_none, range_getD a 5 ha]; exact ((Blk.new w 132 _).alloc _).alloc _
  have hB1 : Blk W1 (w.heap.size + 1) 132 (b.map nv) := by
    have := (Blk.new (w.alloc (.cells A 132)) 132 (b.map nv)).alloc (.cells Z 132)
    rw [World.size_alloc] at this
    rw [hW1, hB]; exact this
  have hR1 : Blk W1 (w.heap.size + 2) 132 (zero5L.map nv) := by
    have := Blk.new ((w.alloc (.cells A 132)).alloc (.cells B 132)) 132 (zero5L.map nv)
    rw [World.size_alloc, World.size_alloc] at this
    rw [hW1, hZ]; exact this
  show Calls Tryd.prog 75 #[.agg (a.map nv).toArray, .agg (b.map nv).toArray] w _
  rw [← hA, ← hB]
  have HA := hide ha
  have HB := hide hb
  have HW1 := hide hW1
  have HA1 := hide hA1
  have HB1 := hide hB1
  have HR := hide hR1
  have HSM := hide hs
  clear ha hb hs hA hB hZ hW1 hA1 hB1 hR1
  go_enter Tryd.func75, Tryd.ntmps75
  go_wp2
  rw [← unhide HW1]
  go_loopw [6] (fun i wr => ∃ k : Nat, k ≤ 5 ∧ i = .int .i64 (k : Int) ∧ Blk wr w.heap.size 132 ((stepL 5 k (fun i => a.getD i 0 + b.getD i 0) (fun i => a.getD i 0)).map nv) ∧ Blk wr (w.heap.size + 1) 132 (b.map nv) ∧ Blk wr (w.heap.size + 2) 132 (zero5L.map nv) ∧ w.grownBy wr none) (fun i _ => 5 - (intOf i).toNat)
  case atStart => exact ⟨0, Nat.zero_le _, rfl, unhide HA1, unhide HB1, unhide HR, hg⟩
  case round =>
    clear HA1 HB1 HR hg HW1
    obtain ⟨k, hk, rfl, hA, hB, hR, hg⟩ := hrel
    by_cases hlt : k < 5
    · have hq0 : (0 : Int) ≤ (k : Int) := by omega
      have hq1 : (k : Int) < 5 := by omega
      have b1 := unhide HSM k
      obtain ⟨x, hxe⟩ : ∃ x, x = a.getD k 0 := ⟨_, rfl⟩
      obtain ⟨y, hye⟩ : ∃ y, y = b.getD k 0 := ⟨_, rfl⟩
      rw [← hxe, ← hye] at b1
      have e1 : ((x : Int) + (y : Int)) % 18446744073709551616 = (x : Int) + (y : Int) := by omega
      have e2 : IntKind.u64.wrap ((x : Int) + (y : Int)) = (x : Int) + (y : Int) := by rw [IntKind.wrap_u64]; omega
      have hfz := hA.fz k
      have hc : wr.cell? ⟨w.heap.size, k, none⟩ = some (.int .u64 (x : Int)) := by
        rw [hA.cell, List.getElem?_map, stepL_at _ _ _ _ _ hlt, if_neg (by omega), hxe]; rfl
      have hc2 : wr.cell? ⟨w.heap.size + 1, k, none⟩ = some (.int .u64 (y : Int)) := by
        rw [hB.cell, nv_at b k (by rw [unhide HB]; exact hlt), hye]
      have HXE := hide hxe
      have HYE := hide hye
      have HA1 := hide hA
      have HB1 := hide hB
      have HR := hide hR
      clear hxe hye hA hB hR b1
      go_wp2
      go_region
      go_wp2
      go_roundw
      case rel =>
        have hS := (unhide HA1).set k (nv (a.getD k 0 + b.getD k 0))
        rw [← List.map_set, stepL_set (f := fun i => a.getD i 0 + b.getD i 0)] at hS
        have ec : nv (a.getD k 0 + b.getD k 0) = .int .u64 ((x : Int) + (y : Int)) := by
          rw [← unhide HXE, ← unhide HYE]; rfl
        rw [ec] at hS
        refine ⟨k + 1, by omega, by go_num, hS.drew, ((unhide HB1).other _ _ (by simp)).drew, ((unhide HR).other _ _ (by simp)).drew, gb_drew (gb_setCell hg _ _ (Or.inl (by simp)))⟩
      case measure => simp [intOf]; omega
    · obtain rfl : k = 5 := by omega
      rw [stepL_all] at hA
      rw [show ((5 : Nat) : Int) = 5 from rfl]
      obtain ⟨C, hC⟩ : ∃ C : List Nat, C = (List.range 5).map fun i => a.getD i 0 + b.getD i 0 := ⟨_, rfl⟩
      rw [← hC] at hA
      have hCl : C.length = 5 := by rw [hC]; simp
      have hi := info5n C hCl
      have hS := hR.row (C.map nv)
      have hG : w.grownBy (wr.setRow (w.heap.size + 2) (C.map nv).toArray) none := gb_row hg _ (Or.inl (by omega))
      have HA := hide hA
      have HR := hide hR
      have HI := hide hi
      have HC := hide hC
      have HCL := hide hCl
      have HS := hide hS
      have HG := hide hG
      clear hA hB hR hi hC hCl hS hG
      go_wp2_with (first
        | (refine wpList_load_row rfl 132 _ rfl w.heap.size rfl _ _ _ _ (unhide HA) Tryd.underlying132 rfl ?_ ?_; (exact unhide HI))
        | (refine wpList_store_row rfl 132 _ _ rfl (w.heap.size + 2) _ rfl rfl _ _ (unhide HR) ?_ ?_ ?_ ?_; (exact unhide HI); (rw [num_size C (unhide HCL)]; rfl); (exact all_oneCell_toArray (nv_one _))))
      refine bodyPost_ret (v := num C) (results_cell_row (g := w.heap.size + 2) rfl _ _ _ _ _ _ ?_ (unhide HS) Tryd.underlying132 rfl (unhide HI)) rfl ⟨by rw [unhide HC], unhide HG⟩
      rfl

set_option maxRecDepth 100000 in
set_option maxHeartbeats 1000000 in
theorem fold5_any (w : World) (n : List Nat) (hn : n.length = 5) (hb : ∀ k, n.getD k 0 < 2 ^ 62) :
    Calls Tryd.prog 98 #[num n] w fun e w' => e = .returned (num (foldL n)) ∧ w.grownBy w' none := by
  obtain ⟨A, hA⟩ : ∃ A : Array Value, A = (n.map nv).toArray := ⟨_, rfl⟩
  obtain ⟨Z, hZ⟩ : ∃ A : Array Value, A = (zero5L.map nv).toArray := ⟨_, rfl⟩
  have hz := zero5
  rw [← hZ] at hz
  obtain ⟨W1, hW1⟩ : ∃ W1, W1 = (w.alloc (.cells A 132)).alloc (.cells Z 132) := ⟨_, rfl⟩
  have hg : w.grownBy W1 none := by rw [hW1]; exact gb_alloc (gb_alloc (gb_refl _ _) _) _
  have hB1 : Blk W1 w.heap.size 132 (n.map nv) := by rw [hW1, hA]; exact (Blk.new w 132 _).alloc _
  have hR1 : Blk W1 (w.heap.size + 1) 132 (zero5L.map nv) := by
    have := Blk.new (w.alloc (.cells A 132)) 132 (zero5L.map nv)
    rw [World.size_alloc] at this
    rw [hW1, hZ]; exact this
  have ho := ovr_lt n hb 5
  have hcar := carried5_any W1 n hn hb
  obtain ⟨C, hC⟩ : ∃ C, C = cutL n := ⟨_, rfl⟩
  have hCl : C.length = 5 := by rw [hC]; exact cutL_length n
  have hC0 : C.getD 0 0 < 67108864 := by rw [hC]; exact cutL_getD n 0
  obtain ⟨o, hoe⟩ : ∃ o, o = ovr n 5 := ⟨_, rfl⟩
  obtain ⟨F, hF⟩ : ∃ F, F = foldL n := ⟨_, rfl⟩
  have hF2 : F = C.set 0 (C.getD 0 0 + 5 * o) := by rw [hF, foldL, ← hC, ← hoe]
  have hFl : F.length = 5 := by rw [hF]; exact foldL_length n
  rw [← hF]
  rw [← hC, ← hoe] at hcar
  rw [← hoe] at ho
  unfold num nv at hcar
  change Calls Tryd.prog 76 #[.agg (n.map nv).toArray] W1 (fun e w' => e = .returned (.tuple #[.agg (C.map nv).toArray, .int .u64 (o : Int)]) ∧ W1.grownBy w' none) at hcar
  obtain ⟨x, hx⟩ : ∃ x, x = C.getD 0 0 := ⟨_, rfl⟩
  rw [← hx] at hF2 hC0
  have e1 : ((5 : Int) * (o : Int)) % 18446744073709551616 = 5 * (o : Int) := by omega
  have e2 : IntKind.u64.wrap ((5 : Int) * (o : Int)) = 5 * (o : Int) := by rw [IntKind.wrap_u64]; omega
  have e3 : ((x : Int) + 5 * (o : Int)) % 18446744073709551616 = (x : Int) + 5 * (o : Int) := by omega
  have e4 : IntKind.u64.wrap ((x : Int) + 5 * (o : Int)) = (x : Int) + 5 * (o : Int) := by rw [IntKind.wrap_u64]; omega
  show Calls Tryd.prog 98 #[.agg (n.map nv).toArray] w _
  rw [← hA] at hcar ⊢
  have hi1 : (Tryd.prog.info? 132).map (·.size) = some A.size := by rw [hA]; exact info5n n hn
  have hsz : A.size = 5 := by rw [hA]; exact num_size n hn
  have hiC := info5n C hCl
  have hiF := info5n F hFl
  have hsC := num_size C hCl
  have hsF := num_size F hFl
  have hB1' : W1.heap[w.heap.size]? = some (.cells A 132 (0, 0)) := by rw [hA]; exact hB1
  have HW1 := hide hW1
  have HB := hide hB1'
  have HR := hide hR1
  have HI1 := hide hi1
  have HIC := hide hiC
  have HIF := hide hiF
  have HSZ := hide hsz
  have HSC := hide hsC
  have HSF := hide hsF
  have HF2 := hide hF2
  have HX := hide hx
  have HCL := hide hCl
  clear hn hb hA hZ hW1 hB1 hR1 hi1 hiC hiF hB1' hC0 ho hC hoe hF hFl hsz hsC hsF hF2 hx hCl
  go_enter Tryd.func98, Tryd.ntmps98
  go_wp2_with (first
    | (rw [← unhide HW1]; refine wpList_load_row rfl 132 _ rfl w.heap.size rfl _ _ _ _ (unhide HB) Tryd.underlying132 rfl ?_ ?_; (exact unhide HI1))
    | (go_at_call 76; refine hcar.mono ?_; rintro e w2 ⟨rfl, g2⟩; have hB2 : w2.heap[w.heap.size]? = some (.cells A 132 (0, 0)) := (by rw [g2.block _ (Array.getElem?_eq_some_iff.1 (unhide HB)).1 (by simp)]; exact unhide HB); have hR2 := (unhide HR).kept g2 (by simp))
    | (refine wpList_store_row rfl 132 _ _ rfl w.heap.size _ rfl rfl _ _ hB2 ?_ ?_ ?_ ?_; (exact unhide HIC); (rw [unhide HSC, unhide HSZ]); (exact all_oneCell_toArray (nv_one _)); have hB3 : Blk (w2.setRow w.heap.size (C.map nv).toArray) w.heap.size 132 (C.map nv) := Blk.row (cs := A.toList) hB2 _; have hc3 : (w2.setRow w.heap.size (C.map nv).toArray).cell? ⟨w.heap.size, 0, none⟩ = some (.int .u64 (x : Int)) := (by rw [hB3.cell, nv_at C 0 (by rw [unhide HCL]; omega), unhide HX]); have hf3 := hB3.fz 0; have hB4 : Blk ((w2.setRow w.heap.size (C.map nv).toArray).setCell ⟨w.heap.size, 0, none⟩ (.int .u64 ((x : Int) + 5 * (o : Int)))) w.heap.size 132 (F.map nv) := (by rw [unhide HF2, List.map_set]; exact hB3.set 0 (nv (x + 5 * o))); have hR4 := (hR2.row_other w.heap.size (C.map nv).toArray (by omega)).other ⟨w.heap.size, 0, none⟩ (.int .u64 ((x : Int) + 5 * (o : Int))) (by simp); have HB4 := hide hB4; have HR4 := hide hR4; clear hB3 hB2 hR2 hB4 hR4)
    | (refine wpList_load_row rfl 132 _ rfl w.heap.size rfl _ _ _ _ (unhide HB4) Tryd.underlying132 rfl ?_ ?_; (exact unhide HIF))
    | (refine wpList_store_row rfl 132 _ _ rfl (w.heap.size + 1) _ rfl rfl _ _ (unhide HR4) ?_ ?_ ?_ ?_; (exact unhide HIF); (rw [unhide HSF]; rfl); (exact all_oneCell_toArray (nv_one _))))
  have hS := (unhide HR4).row (F.map nv)
  refine bodyPost_ret (v := num F) (results_cell_row (g := w.heap.size + 1) rfl _ _ _ _ _ _ ?_ hS Tryd.underlying132 rfl (unhide HIF)) rfl ⟨rfl, ?_⟩
  · rfl
  · exact gb_row (gb_setCell (gb_row (gb_trans hg g2 (fun _ e => by cases e)) _ (Or.inl (Nat.le_refl _))) _ _ (Or.inl (by simp))) _ (Or.inl (by omega))
end Go.Proofs.YtjckdgapefaokaaDoor
