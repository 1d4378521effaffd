/- What poly's carried, plus and fold answer of numbers by five limbs. No condition but the bounds that each lemma names. -/
import Derived.Test.YtjckdgapefaokaaDoorKEqual
import Derived.Test.YtjckdgapefaokaaDoorPRefK
import Derived.Laws.ResultCell
import Derived.Laws.BitsAllLaws
namespace Go.Proofs.YtjckdgapefaokaaDoor
open Go.RowKit

/-- A limb as a cell holds it. -/
def nv (n : Nat) : Value := .int .u64 (n : Int)
theorem nv_one (l : List Nat) : ∀ u ∈ l.map nv, u.oneCell' = true := by
  intro u hu
  obtain ⟨_, _, rfl⟩ := List.mem_map.1 hu
  rfl
/-- A number as a value. -/
def num (n : List Nat) : Value := .agg (n.map nv).toArray
def zero5L : List Nat := List.replicate 5 0
theorem zero5 (w : World) : (zeroValue 132).run Tryd.prog w = .ok (.agg (zero5L.map nv).toArray) w := by kernel_rfl
theorem size_limb (w : World) : (Go.sizeOf 75).run Tryd.prog w = .ok 1 w := by kernel_rfl
theorem agg_limb (w : World) : (isAgg 75).run Tryd.prog w = .ok false w := by kernel_rfl
theorem info5 : (Tryd.prog.info? 132).map (·.size) = some 5 := by kernel_rfl
theorem nv_at (n : List Nat) (k : Nat) (h : k < n.length) : (n.map nv)[k]? = some (.int .u64 (n.getD k 0 : Nat)) := by
  rw [List.getElem?_map, List.getElem?_eq_getElem h, show n.getD k 0 = n[k] by simp [List.getD, h]]; rfl
theorem num_size (n : List Nat) (h : n.length = 5) : ((n.map nv).toArray).size = 5 := by simp [h]
theorem info5n (n : List Nat) (h : n.length = 5) : (Tryd.prog.info? 132).map (·.size) = some ((n.map nv).toArray).size := by rw [num_size n h]; exact info5

/-- What a call hands out: a row, and a value beside it. -/
theorem results_row_tmp {P : Program} {fn : Func} {p u : Tmp} {ty : TypeId} (h : fn.results = #[.cell p ty, .tmp u]) (tmps : Array Value) (w : World) (g : Nat) (t : TypeId) (cs : Array Value) (fr : Nat × Nat) (d : TypeDesc)
    (hp : tmps.getD p undef = .pointer (some ⟨g, 0, none⟩)) (hg : w.heap[g]? = some (.cells cs t fr))
    (hu : P.underlying ty = some d) (hd : (match d with | .struct _ | .array _ _ => true | _ => false) = true) (hi : (P.info? ty).map (·.size) = some cs.size) :
    (results fn tmps).run P w = .ok (.tuple #[.agg cs, tmps.getD u undef]) w := by
  rw [results_cell_tmp h, hp]
  simp [asAddr, run_loadVar_row w g t ty cs fr d hg hu hd hi]

/-- The limb's part of a word. -/
theorem mask26 (x : Nat) (h : x < 2 ^ 63) : bits .and .u64 (x : Int) 67108863 = ((x % 67108864 : Nat) : Int) := by
  have := u64_and_nat x 67108863 (by omega) (by omega)
  rw [show ((67108863 : Nat) : Int) = 67108863 from rfl] at this
  rw [this, show (67108863 : Nat) = 2 ^ 26 - 1 from rfl, Nat.and_two_pow_sub_one_eq_mod]

set_option maxRecDepth 100000 in
set_option maxHeartbeats 1000000 in
theorem carried5_any (w : World) (n : List Nat) (hn : n.length = 5) (hb : ∀ k, n.getD k 0 < 2 ^ 62) :
    Calls Tryd.prog 76 #[num n] w fun e w' => e = .returned (.tuple #[num (cutL n), nv (ovr n 5)]) ∧ w.grownBy w' none := by
  obtain ⟨A, hA⟩ : ∃ A : Array Value, A = (n.map nv).toArray := ⟨_, rfl⟩
  obtain ⟨Z, hZ⟩ : ∃ A : Array Value, A = (zero5L.map nv).toArray := ⟨_, rfl⟩
  have hz := zero5
  rw [← hZ] at hz
  have hidx : ∀ k : Nat, k < 5 → ∀ W, (Instr.index 132 (.agg A) (.int .i64 (k : Int))).run Tryd.prog W = .ok (.int .u64 (n.getD k 0 : Nat)) W := fun k hk W => by
    rw [hA]; exact index_row 132 75 5 (n.map nv) k _ Tryd.underlying132 size_limb agg_limb hk (nv_at n k (by omega)) W
  obtain ⟨W1, hW1⟩ : ∃ W1, W1 = (w.alloc (.cells A 132)).alloc (.cells Z 132) := ⟨_, rfl⟩
  have hg : w.grownBy W1 none := by rw [hW1]; exact gb_alloc (gb_alloc (gb_refl _ _) _) _
  have hB1 : Blk W1 w.heap.size 132 (n.map nv) := by rw [hW1, hA]; exact (Blk.new w 132 _).alloc _
  have hR1 : Blk W1 (w.heap.size + 1) 132 ((stepL 5 0 (cutD n) (fun _ => 0)).map nv) := by
    have := Blk.new (w.alloc (.cells A 132)) 132 (zero5L.map nv)
    rw [World.size_alloc] at this
    rw [hW1, hZ]; exact this
  have ho := ovr_lt n hb
  show Calls Tryd.prog 76 #[.agg (n.map nv).toArray] w _
  rw [← hA]
  have hAs : (Tryd.prog.info? 132).map (·.size) = some A.size := by rw [hA]; exact info5n n hn
  have hB1' : W1.heap[w.heap.size]? = some (.cells A 132 (0, 0)) := by rw [hA]; exact hB1
  have HN := hide hn
  have HA := hide hA
  have HZ := hide hZ
  have HW1 := hide hW1
  have HB := hide hB1'
  have HR := hide hR1
  have HAS := hide hAs
  have HIDX := hide hidx
  have HBD := hide hb
  have HO := hide ho
  clear hn hA hZ hW1 hB1 hR1 hAs hB1' hidx hb ho
  go_enter Tryd.func76, Tryd.ntmps76
  go_wp2_with (rw [← unhide HW1]; refine wpList_load_row rfl 132 _ rfl w.heap.size rfl _ _ _ _ (unhide HB) Tryd.underlying132 rfl ?_ ?_; (exact unhide HAS))
  go_loopw [3, 7] (fun o i wr => ∃ k : Nat, k ≤ 5 ∧ i = .int .i64 (k : Int) ∧ o = .int .u64 (ovr n k : Nat) ∧ Blk wr (w.heap.size + 1) 132 ((stepL 5 k (cutD n) (fun _ => 0)).map nv) ∧ w.grownBy wr none) (fun _ i _ => 5 - (intOf i).toNat)
  case atStart => exact ⟨0, Nat.zero_le _, rfl, rfl, unhide HR, hg⟩
  case round =>
    clear HB HR hg HW1
    obtain ⟨k, hk, rfl, rfl, hR, hg⟩ := hrel
    by_cases hlt : k < 5
    · have hq0 : (0 : Int) ≤ (k : Int) := by omega
      have hq1 : (k : Int) < 5 := by omega
      have hx := unhide HIDX k hlt
      have b1 := unhide HBD k
      have b2 := unhide HO k
      obtain ⟨x, hxe⟩ : ∃ x, x = n.getD k 0 := ⟨_, rfl⟩
      obtain ⟨o, hoe⟩ : ∃ o, o = ovr n k := ⟨_, rfl⟩
      rw [← hxe] at hx b1
      rw [← hoe] at b2 ⊢
      have hm := mask26 (x + o) (by omega)
      have e1 : ((x : Int) + (o : Int)) % 18446744073709551616 = ((x + o : Nat) : Int) := by omega
      have e2 : IntKind.u64.wrap ((x : Int) + (o : Int)) = ((x + o : Nat) : Int) := by rw [IntKind.wrap_u64]; omega
      have e3 : ((x + o : Nat) : Int) / 67108864 = (((x + o) / 67108864 : Nat) : Int) := by omega
      have hfz := hR.fz k
      have hc : wr.cell? ⟨w.heap.size + 1, k, none⟩ = some (.int .u64 (0 : Int)) := by
        rw [hR.cell, List.getElem?_map, stepL_at _ _ _ _ _ hlt, if_neg (by omega)]; rfl
      have HXE := hide hxe
      have HOE := hide hoe
      have HR := hide hR
      clear hxe hoe hR b1 b2
      go_wp2
      go_roundw
      case rel =>
        have hS := (unhide HR).set k (nv (cutD n k))
        rw [← List.map_set, stepL_set] at hS
        have ec : nv (cutD n k) = .int .u64 (bits BinOp.and IntKind.u64 ((x : Int) + (o : Int)) 67108863) := by
          rw [show ((x : Int) + (o : Int)) = ((x + o : Nat) : Int) by omega, hm, cutD, ← unhide HXE, ← unhide HOE]; rfl
        rw [ec] at hS
        refine ⟨k + 1, by omega, by go_num, ?_, hS, gb_setCell hg _ _ (Or.inl (by simp))⟩
        rw [ovr, ← unhide HXE, ← unhide HOE, ← e3]
        rfl
      case measure => simp [intOf]; omega
    · obtain rfl : k = 5 := by omega
      rw [stepL_all] at hR
      rw [show ((5 : Nat) : Int) = 5 from rfl]
      obtain ⟨C, hC⟩ : ∃ C, C = cutL n := ⟨_, rfl⟩
      have hR2 : Blk wr (w.heap.size + 1) 132 (C.map nv) := by rw [hC]; exact hR
      have hCl : C.length = 5 := by rw [hC]; exact cutL_length n
      have hi := info5n C hCl
      have hS := hR2.row (C.map nv)
      have hG : w.grownBy (wr.setRow (w.heap.size + 1) (C.map nv).toArray) none := gb_row hg _ (Or.inl (by omega))
      have HR := hide hR2
      have HI := hide hi
      have HC := hide hC
      have HCL := hide hCl
      have HS := hide hS
      have HG := hide hG
      clear hR2 hi hC hCl hS hG hR
      go_wp2_with (first
        | (refine wpList_load_row rfl 132 _ rfl (w.heap.size + 1) rfl _ _ _ _ (unhide HR) Tryd.underlying132 rfl ?_ ?_; (exact unhide HI))
        | (refine wpList_store_row rfl 132 _ _ rfl (w.heap.size + 1) _ rfl rfl _ _ (unhide HR) ?_ ?_ ?_ ?_; (exact unhide HI); rfl; (exact all_oneCell_toArray (nv_one _))))
      refine bodyPost_ret (v := .tuple #[num C, nv (ovr n 5)]) ((results_row_tmp (fn := Tryd.f76) (g := w.heap.size + 1) rfl _ _ _ _ _ _ ?_ (unhide HS) Tryd.underlying132 rfl (unhide HI)).trans ?_) rfl ⟨by rw [unhide HC], unhide HG⟩
      · rfl
      · rfl

set_option maxRecDepth 100000 in
set_option maxHeartbeats 1000000 in
/-- Limbs are added one by one. -/
theorem plus5_any (w : World) (a b : List Nat) (ha : a.length = 5) (hb : b.length = 5) (hs : ∀ k, a.getD k 0 + b.getD k 0 < 2 ^ 63) :
    Calls Tryd.prog 75 #[num a, num b] w fun e w' => e = .returned (num ((List.range 5).map fun i => a.getD i 0 + b.getD i 0)) ∧ w.grownBy w' none := by
  obtain ⟨A, hA⟩ : ∃ A : Array Value, A = (a.map nv).toArray := ⟨_, rfl⟩
  obtain ⟨B, hB⟩ : ∃ A : Array Value, A = (b.map nv).toArray := ⟨_, rfl⟩
  obtain ⟨Z, hZ⟩ : ∃ A : Array Value, A = (zero5L.map nv).toArray := ⟨_, rfl⟩
  have hz := zero5
  rw [← hZ] at hz
  obtain ⟨W1, hW1⟩ : ∃ W1, W1 = ((w.alloc (.cells A 132)).alloc (.cells B 132)).alloc (.cells Z 132) := ⟨_, rfl⟩
  have hg : w.grownBy W1 none := by rw [hW1]; exact gb_alloc (gb_alloc (gb_alloc (gb_refl _ _) _) _) _
  have hA1 : Blk W1 w.heap.size 132 ((stepL 5 0 (fun i => a.getD i 0 + b.getD i 0) (fun i => a.getD i 0)).map nv) := by
    rw [hW1, hA, stepL_none, range_getD a 5 ha]; exact ((Blk.new w 132 _).alloc _).alloc _
  have hB1 : Blk W1 (w.heap.size + 1) 132 (b.map nv) := by
    have := (Blk.new (w.alloc (.cells A 132)) 132 (b.map nv)).alloc (.cells Z 132)
    rw [World.size_alloc] at this
    rw [hW1, hB]; exact this
  have hR1 : Blk W1 (w.heap.size + 2) 132 (zero5L.map nv) := by
    have := Blk.new ((w.alloc (.cells A 132)).alloc (.cells B 132)) 132 (zero5L.map nv)
    rw [World.size_alloc, World.size_alloc] at this
    rw [hW1, hZ]; exact this
  show Calls Tryd.prog 75 #[.agg (a.map nv).toArray, .agg (b.map nv).toArray] w _
  rw [← hA, ← hB]
  have HA := hide ha
  have HB := hide hb
  have HW1 := hide hW1
  have HA1 := hide hA1
  have HB1 := hide hB1
  have HR := hide hR1
  have HSM := hide hs
  clear ha hb hs hA hB hZ hW1 hA1 hB1 hR1
  go_enter Tryd.func75, Tryd.ntmps75
  go_wp2
  rw [← unhide HW1]
  go_loopw [6] (fun i wr => ∃ k : Nat, k ≤ 5 ∧ i = .int .i64 (k : Int) ∧ Blk wr w.heap.size 132 ((stepL 5 k (fun i => a.getD i 0 + b.getD i 0) (fun i => a.getD i 0)).map nv) ∧ Blk wr (w.heap.size + 1) 132 (b.map nv) ∧ Blk wr (w.heap.size + 2) 132 (zero5L.map nv) ∧ w.grownBy wr none) (fun i _ => 5 - (intOf i).toNat)
  case atStart => exact ⟨0, Nat.zero_le _, rfl, unhide HA1, unhide HB1, unhide HR, hg⟩
  case round =>
    clear HA1 HB1 HR hg HW1
    obtain ⟨k, hk, rfl, hA, hB, hR, hg⟩ := hrel
    by_cases hlt : k < 5
    · have hq0 : (0 : Int) ≤ (k : Int) := by omega
      have hq1 : (k : Int) < 5 := by omega
      have b1 := unhide HSM k
      obtain ⟨x, hxe⟩ : ∃ x, x = a.getD k 0 := ⟨_, rfl⟩
      obtain ⟨y, hye⟩ : ∃ y, y = b.getD k 0 := ⟨_, rfl⟩
      rw [← hxe, ← hye] at b1
      have e1 : ((x : Int) + (y : Int)) % 18446744073709551616 = (x : Int) + (y : Int) := by omega
      have e2 : IntKind.u64.wrap ((x : Int) + (y : Int)) = (x : Int) + (y : Int) := by rw [IntKind.wrap_u64]; omega
      have hfz := hA.fz k
      have hc : wr.cell? ⟨w.heap.size, k, none⟩ = some (.int .u64 (x : Int)) := by
        rw [hA.cell, List.getElem?_map, stepL_at _ _ _ _ _ hlt, if_neg (by omega), hxe]; rfl
      have hc2 : wr.cell? ⟨w.heap.size + 1, k, none⟩ = some (.int .u64 (y : Int)) := by
        rw [hB.cell, nv_at b k (by rw [unhide HB]; exact hlt), hye]
      have HXE := hide hxe
      have HYE := hide hye
      have HA1 := hide hA
      have HB1 := hide hB
      have HR := hide hR
      clear hxe hye hA hB hR b1
      go_wp2
      go_region
      go_wp2
      go_roundw
      case rel =>
        have hS := (unhide HA1).set k (nv (a.getD k 0 + b.getD k 0))
        rw [← List.map_set, stepL_set (f := fun i => a.getD i 0 + b.getD i 0)] at hS
        have ec : nv (a.getD k 0 + b.getD k 0) = .int .u64 ((x : Int) + (y : Int)) := by
          rw [← unhide HXE, ← unhide HYE]; rfl
        rw [ec] at hS
        refine ⟨k + 1, by omega, by go_num, hS.drew, ((unhide HB1).other _ _ (by simp)).drew, ((unhide HR).other _ _ (by simp)).drew, gb_drew (gb_setCell hg _ _ (Or.inl (by simp)))⟩
      case measure => simp [intOf]; omega
    · obtain rfl : k = 5 := by omega
      rw [stepL_all] at hA
      rw [show ((5 : Nat) : Int) = 5 from rfl]
      obtain ⟨C, hC⟩ : ∃ C : List Nat, C = (List.range 5).map fun i => a.getD i 0 + b.getD i 0 := ⟨_, rfl⟩
      rw [← hC] at hA
      have hCl : C.length = 5 := by rw [hC]; simp
      have hi := info5n C hCl
      have hS := hR.row (C.map nv)
      have hG : w.grownBy (wr.setRow (w.heap.size + 2) (C.map nv).toArray) none := gb_row hg _ (Or.inl (by omega))
      have HA := hide hA
      have HR := hide hR
      have HI := hide hi
      have HC := hide hC
      have HCL := hide hCl
      have HS := hide hS
      have HG := hide hG
      clear hA hB hR hi hC hCl hS hG
      go_wp2_with (first
        | (refine wpList_load_row rfl 132 _ rfl w.heap.size rfl _ _ _ _ (unhide HA) Tryd.underlying132 rfl ?_ ?_; (exact unhide HI))
        | (refine wpList_store_row rfl 132 _ _ rfl (w.heap.size + 2) _ rfl rfl _ _ (unhide HR) ?_ ?_ ?_ ?_; (exact unhide HI); (rw [num_size C (unhide HCL)]; rfl); (exact all_oneCell_toArray (nv_one _))))
      refine bodyPost_ret (v := num C) (results_cell_row (g := w.heap.size + 2) rfl _ _ _ _ _ _ ?_ (unhide HS) Tryd.underlying132 rfl (unhide HI)) rfl ⟨by rw [unhide HC], unhide HG⟩
      rfl

set_option maxRecDepth 100000 in
set_option maxHeartbeats 1000000 in
theorem fold5_any (w : World) (n : List Nat) (hn : n.length = 5) (hb : ∀ k, n.getD k 0 < 2 ^ 62) :
    Calls Tryd.prog 98 #[num n] w fun e w' => e = .returned (num (foldL n)) ∧ w.grownBy w' none := by
  obtain ⟨A, hA⟩ : ∃ A : Array Value, A = (n.map nv).toArray := ⟨_, rfl⟩
  obtain ⟨Z, hZ⟩ : ∃ A : Array Value, A = (zero5L.map nv).toArray := ⟨_, rfl⟩
  have hz := zero5
  rw [← hZ] at hz
  obtain ⟨W1, hW1⟩ : ∃ W1, W1 = (w.alloc (.cells A 132)).alloc (.cells Z 132) := ⟨_, rfl⟩
  have hg : w.grownBy W1 none := by rw [hW1]; exact gb_alloc (gb_alloc (gb_refl _ _) _) _
  have hB1 : Blk W1 w.heap.size 132 (n.map nv) := by rw [hW1, hA]; exact (Blk.new w 132 _).alloc _
  have hR1 : Blk W1 (w.heap.size + 1) 132 (zero5L.map nv) := by
    have := Blk.new (w.alloc (.cells A 132)) 132 (zero5L.map nv)
    rw [World.size_alloc] at this
    rw [hW1, hZ]; exact this
  have ho := ovr_lt n hb 5
  have hcar := carried5_any W1 n hn hb
  obtain ⟨C, hC⟩ : ∃ C, C = cutL n := ⟨_, rfl⟩
  have hCl : C.length = 5 := by rw [hC]; exact cutL_length n
  have hC0 : C.getD 0 0 < 67108864 := by rw [hC]; exact cutL_getD n 0
  obtain ⟨o, hoe⟩ : ∃ o, o = ovr n 5 := ⟨_, rfl⟩
  obtain ⟨F, hF⟩ : ∃ F, F = foldL n := ⟨_, rfl⟩
  have hF2 : F = C.set 0 (C.getD 0 0 + 5 * o) := by rw [hF, foldL, ← hC, ← hoe]
  have hFl : F.length = 5 := by rw [hF]; exact foldL_length n
  rw [← hF]
  rw [← hC, ← hoe] at hcar
  rw [← hoe] at ho
  unfold num nv at hcar
  change Calls Tryd.prog 76 #[.agg (n.map nv).toArray] W1 (fun e w' => e = .returned (.tuple #[.agg (C.map nv).toArray, .int .u64 (o : Int)]) ∧ W1.grownBy w' none) at hcar
  obtain ⟨x, hx⟩ : ∃ x, x = C.getD 0 0 := ⟨_, rfl⟩
  rw [← hx] at hF2 hC0
  have e1 : ((5 : Int) * (o : Int)) % 18446744073709551616 = 5 * (o : Int) := by omega
  have e2 : IntKind.u64.wrap ((5 : Int) * (o : Int)) = 5 * (o : Int) := by rw [IntKind.wrap_u64]; omega
  have e3 : ((x : Int) + 5 * (o : Int)) % 18446744073709551616 = (x : Int) + 5 * (o : Int) := by omega
  have e4 : IntKind.u64.wrap ((x : Int) + 5 * (o : Int)) = (x : Int) + 5 * (o : Int) := by rw [IntKind.wrap_u64]; omega
  show Calls Tryd.prog 98 #[.agg (n.map nv).toArray] w _
  rw [← hA] at hcar ⊢
  have hi1 : (Tryd.prog.info? 132).map (·.size) = some A.size := by rw [hA]; exact info5n n hn
  have hsz : A.size = 5 := by rw [hA]; exact num_size n hn
  have hiC := info5n C hCl
  have hiF := info5n F hFl
  have hsC := num_size C hCl
  have hsF := num_size F hFl
  have hB1' : W1.heap[w.heap.size]? = some (.cells A 132 (0, 0)) := by rw [hA]; exact hB1
  have HW1 := hide hW1
  have HB := hide hB1'
  have HR := hide hR1
  have HI1 := hide hi1
  have HIC := hide hiC
  have HIF := hide hiF
  have HSZ := hide hsz
  have HSC := hide hsC
  have HSF := hide hsF
  have HF2 := hide hF2
  have HX := hide hx
  have HCL := hide hCl
  clear hn hb hA hZ hW1 hB1 hR1 hi1 hiC hiF hB1' hC0 ho hC hoe hF hFl hsz hsC hsF hF2 hx hCl
  go_enter Tryd.func98, Tryd.ntmps98
  go_wp2_with (first
    | (rw [← unhide HW1]; refine wpList_load_row rfl 132 _ rfl w.heap.size rfl _ _ _ _ (unhide HB) Tryd.underlying132 rfl ?_ ?_; (exact unhide HI1))
    | (go_at_call 76; refine hcar.mono ?_; rintro e w2 ⟨rfl, g2⟩; have hB2 : w2.heap[w.heap.size]? = some (.cells A 132 (0, 0)) := (by rw [g2.block _ (Array.getElem?_eq_some_iff.1 (unhide HB)).1 (by simp)]; exact unhide HB); have hR2 := (unhide HR).kept g2 (by simp))
    | (refine wpList_store_row rfl 132 _ _ rfl w.heap.size _ rfl rfl _ _ hB2 ?_ ?_ ?_ ?_; (exact unhide HIC); (rw [unhide HSC, unhide HSZ]); (exact all_oneCell_toArray (nv_one _)); have hB3 : Blk (w2.setRow w.heap.size (C.map nv).toArray) w.heap.size 132 (C.map nv) := Blk.row (cs := A.toList) hB2 _; have hc3 : (w2.setRow w.heap.size (C.map nv).toArray).cell? ⟨w.heap.size, 0, none⟩ = some (.int .u64 (x : Int)) := (by rw [hB3.cell, nv_at C 0 (by rw [unhide HCL]; omega), unhide HX]); have hf3 := hB3.fz 0; have hB4 : Blk ((w2.setRow w.heap.size (C.map nv).toArray).setCell ⟨w.heap.size, 0, none⟩ (.int .u64 ((x : Int) + 5 * (o : Int)))) w.heap.size 132 (F.map nv) := (by rw [unhide HF2, List.map_set]; exact hB3.set 0 (nv (x + 5 * o))); have hR4 := (hR2.row_other w.heap.size (C.map nv).toArray (by omega)).other ⟨w.heap.size, 0, none⟩ (.int .u64 ((x : Int) + 5 * (o : Int))) (by simp); have HB4 := hide hB4; have HR4 := hide hR4; clear hB3 hB2 hR2 hB4 hR4)
    | (refine wpList_load_row rfl 132 _ rfl w.heap.size rfl _ _ _ _ (unhide HB4) Tryd.underlying132 rfl ?_ ?_; (exact unhide HIF))
    | (refine wpList_store_row rfl 132 _ _ rfl (w.heap.size + 1) _ rfl rfl _ _ (unhide HR4) ?_ ?_ ?_ ?_; (exact unhide HIF); (rw [unhide HSF]; rfl); (exact all_oneCell_toArray (nv_one _))))
  have hS := (unhide HR4).row (F.map nv)
  refine bodyPost_ret (v := num F) (results_cell_row (g := w.heap.size + 1) rfl _ _ _ _ _ _ ?_ hS Tryd.underlying132 rfl (unhide HIF)) rfl ⟨rfl, ?_⟩
  · rfl
  · exact gb_row (gb_setCell (gb_row (gb_trans hg g2 (fun _ e => by cases e)) _ (Or.inl (Nat.le_refl _))) _ _ (Or.inl (by simp))) _ (Or.inl (by omega))
end Go.Proofs.YtjckdgapefaokaaDoor

/- What poly's times answers: a product modulo 2 to the 130, but for 5, in limbs. No condition but the bounds that each lemma names. -/
namespace Go.Proofs.YtjckdgapefaokaaDoor
open Go.RowKit

theorem prod_fit (x y : Nat) (hx : x < 2 ^ 28) (hy : y < 67108864) : x * y < 2 ^ 54 := by
  have := Nat.mul_le_mul (Nat.le_of_lt_succ (show x < (2 ^ 28 - 1) + 1 by omega)) (Nat.le_of_lt_succ (show y < 67108863 + 1 by omega))
  omega

set_option maxRecDepth 100000 in
set_option maxHeartbeats 2000000 in
theorem times5_any (w : World) (a b : List Nat) (ha : a.length = 5) (hab : ∀ k, a.getD k 0 < 2 ^ 28) (hbl : Lim b) :
    Calls Tryd.prog 74 #[num a, num b] w fun e w' => ∃ n, Lin5 n ∧ v26 n % pN = v26 a * v26 b % pN ∧ e = .returned (num n) ∧ w.grownBy w' none := by
  have hb := hbl.1
  have hbb := hbl.2
  obtain ⟨A, hA⟩ : ∃ A : Array Value, A = (a.map nv).toArray := ⟨_, rfl⟩
  obtain ⟨B, hB⟩ : ∃ A : Array Value, A = (b.map nv).toArray := ⟨_, rfl⟩
  obtain ⟨Z, hZ⟩ : ∃ A : Array Value, A = (zero5L.map nv).toArray := ⟨_, rfl⟩
  have hz := zero5
  rw [← hZ] at hz
  have hxa : ∀ k : Nat, k < 5 → ∀ W, (Instr.index 132 (.agg A) (.int .i64 (k : Int))).run Tryd.prog W = .ok (.int .u64 (a.getD k 0 : Nat)) W := fun k hk W => by
    rw [hA]; exact index_row 132 75 5 (a.map nv) k _ Tryd.underlying132 size_limb agg_limb hk (nv_at a k (by omega)) W
  have hxb : ∀ k : Nat, k < 5 → ∀ W, (Instr.index 132 (.agg B) (.int .i64 (k : Int))).run Tryd.prog W = .ok (.int .u64 (b.getD k 0 : Nat)) W := fun k hk W => by
    rw [hB]; exact index_row 132 75 5 (b.map nv) k _ Tryd.underlying132 size_limb agg_limb hk (nv_at b k (by omega)) W
  obtain ⟨W1, hW1⟩ : ∃ W1, W1 = (((w.alloc (.cells A 132)).alloc (.cells B 132)).alloc (.cells Z 132)).alloc (.cells Z 132) := ⟨_, rfl⟩
  have hg : w.grownBy W1 none := by rw [hW1]; exact gb_alloc (gb_alloc (gb_alloc (gb_alloc (gb_refl _ _) _) _) _) _
  have hA1 : W1.heap[w.heap.size]? = some (.cells A 132 (0, 0)) := by
    have := (((Blk.new w 132 (a.map nv)).alloc (.cells B 132)).alloc (.cells Z 132)).alloc (.cells Z 132)
    rw [hW1, hA]; exact this
  have hB1 : W1.heap[w.heap.size + 1]? = some (.cells B 132 (0, 0)) := by
    have := ((Blk.new (w.alloc (.cells A 132)) 132 (b.map nv)).alloc (.cells Z 132)).alloc (.cells Z 132)
    rw [World.size_alloc] at this
    rw [hW1, hB]; exact this
  have hR1 : Blk W1 (w.heap.size + 2) 132 (zero5L.map nv) := by
    have := (Blk.new ((w.alloc (.cells A 132)).alloc (.cells B 132)) 132 (zero5L.map nv)).alloc (.cells Z 132)
    rw [World.size_alloc, World.size_alloc, ← hZ] at this
    rw [hW1]; exact this
  have hN1 : Blk W1 (w.heap.size + 3) 132 (zero5L.map nv) := by
    have := Blk.new (((w.alloc (.cells A 132)).alloc (.cells B 132)).alloc (.cells Z 132)) 132 (zero5L.map nv)
    rw [World.size_alloc, World.size_alloc, World.size_alloc, ← hZ] at this
    rw [hW1]; exact this
  show Calls Tryd.prog 74 #[.agg (a.map nv).toArray, .agg (b.map nv).toArray] w _
  rw [← hA, ← hB]
  have hiA : (Tryd.prog.info? 132).map (·.size) = some A.size := by rw [hA]; exact info5n a ha
  have hiB : (Tryd.prog.info? 132).map (·.size) = some B.size := by rw [hB]; exact info5n b hb
  have HAL := hide ha
  have HBL := hide hb
  have HAB := hide hab
  have HBB := hide hbb
  have HXA := hide hxa
  have HXB := hide hxb
  have HW1 := hide hW1
  have HA1 := hide hA1
  have HB1 := hide hB1
  have HR := hide hR1
  have HN := hide hN1
  have HIA := hide hiA
  have HIB := hide hiB
  clear ha hb hab hbb hbl hxa hxb hA hB hZ hW1 hA1 hB1 hR1 hN1 hiA hiB
  go_enter Tryd.func74, Tryd.ntmps74
  go_wp2_with (rw [← unhide HW1]; refine wpList_load_row rfl 132 _ rfl w.heap.size rfl _ _ _ _ (unhide HA1) Tryd.underlying132 rfl ?_ ?_; (exact unhide HIA))
  go_loopw [11] (fun iv wr => ∃ (i : Nat) (n : List Nat), i ≤ 5 ∧ iv = .int .i64 (i : Int) ∧ n.length = 5 ∧ v26 n % pN = (v26 (a.take i) * v26 b) % pN ∧ (∀ j, n.getD j 0 ≤ (5 * i) * 2 ^ 57) ∧ wr.heap[w.heap.size + 1]? = some (.cells B 132 (0, 0)) ∧ Blk wr (w.heap.size + 3) 132 (n.map nv) ∧ Blk wr (w.heap.size + 2) 132 (zero5L.map nv) ∧ w.grownBy wr none) (fun iv _ => 5 - (intOf iv).toNat)
  case atStart =>
    refine ⟨0, zero5L, Nat.zero_le _, rfl, rfl, ?_, fun j => ?_, unhide HB1, unhide HN, unhide HR, hg⟩
    · rw [show v26 zero5L = 0 from rfl, List.take_zero, v26, Nat.zero_mul]
    match j with
    | 0 => decide
    | 1 => decide
    | 2 => decide
    | 3 => decide
    | 4 => decide
    | j + 5 => rw [getD_out _ _ (by simp [zero5L])]; omega
  case round =>
    clear HR HN HA1 HB1 hg HW1
    obtain ⟨i, n, hi, rfl, hnl, hnv, hnb, hB, hN, hR, hg⟩ := hrel
    by_cases hlt : i < 5
    · have hq0 : (0 : Int) ≤ (i : Int) := by omega
      have hq1 : (i : Int) < 5 := by omega
      have hx := unhide HXA i hlt
      have b1 := unhide HAB i
      obtain ⟨x, hxe⟩ : ∃ x, x = a.getD i 0 := ⟨_, rfl⟩
      rw [← hxe] at hx b1
      have hta : v26 (a.take (i + 1)) = v26 (a.take i) + 67108864 ^ i * x := by
        rw [hxe]; exact v26_take a i (by rw [unhide HAL]; exact hlt)
      have HTA := hide hta
      have HB := hide hB
      have HN := hide hN
      have HR := hide hR
      have HNB := hide hnb
      have HNV := hide hnv
      have HNL := hide hnl
      clear hta hB hN hR hnb hnv hnl hxe
      go_wp2_with (refine wpList_load_row rfl 132 _ rfl (w.heap.size + 1) rfl _ _ _ _ (unhide HB) Tryd.underlying132 rfl ?_ ?_; (exact unhide HIB))
      go_loopw [16] (fun jv wr => ∃ (j : Nat) (n : List Nat), j ≤ 5 ∧ jv = .int .i64 (j : Int) ∧ n.length = 5 ∧ v26 n % pN = (v26 (a.take i) * v26 b + 67108864 ^ i * x * v26 (b.take j)) % pN ∧ (∀ q, n.getD q 0 ≤ (5 * i + j) * 2 ^ 57) ∧ wr.heap[w.heap.size + 1]? = some (.cells B 132 (0, 0)) ∧ Blk wr (w.heap.size + 3) 132 (n.map nv) ∧ Blk wr (w.heap.size + 2) 132 (zero5L.map nv) ∧ w.grownBy wr none) (fun jv _ => 5 - (intOf jv).toNat)
      case atStart =>
        refine ⟨0, n, Nat.zero_le _, rfl, unhide HNL, ?_, unhide HNB, unhide HB, unhide HN, unhide HR, hg⟩
        rw [List.take_zero, v26, Nat.mul_zero, Nat.add_zero]; exact unhide HNV
      case round =>
        clear HR HN HB hg HNL HNV HNB
        obtain ⟨j, n, hj, rfl, hnl, hnv, hnb, hB, hN, hR, hg⟩ := hrel
        by_cases hjl : j < 5
        · have hj0 : (0 : Int) ≤ (j : Int) := by omega
          have hj1 : (j : Int) < 5 := by omega
          have hy := unhide HXB j hjl
          have b2 := unhide HBB j
          have hstep := times_step n b (v26 (a.take i) * v26 b) i j x hnl (unhide HBL) hlt hjl hnv
          obtain ⟨y, hye⟩ : ∃ y, y = b.getD j 0 := ⟨_, rfl⟩
          rw [← hye] at hy b2 hstep
          have hxy := prod_fit x y b1 b2
          by_cases hij : i + j < 5
          · have hqe : (i + j) % 5 = i + j := Nat.mod_eq_of_lt hij
            rw [hqe, if_pos hij] at hstep
            obtain ⟨q, hq⟩ : ∃ q, q = i + j := ⟨_, rfl⟩
            obtain ⟨m, hm⟩ : ∃ m, m = x * y := ⟨_, rfl⟩
            have hm1 : m < 2 ^ 57 := by omega
            have g1 : (i : Int) + (j : Int) = (q : Int) := by omega
            have g2 : (q : Int) < 5 := by omega
            have g3 : (0 : Int) ≤ (q : Int) := by omega
            have g4 : (x : Int) * (y : Int) = (m : Int) := by rw [hm]; exact (Int.natCast_mul x y).symm
            have hq5 : q < 5 := by omega
            rw [← hq, ← hm] at hstep
            obtain ⟨z, hz2⟩ : ∃ z, z = n.getD q 0 := ⟨_, rfl⟩
            have hzb := hnb q
            rw [← hz2] at hzb hstep
            obtain ⟨t, ht⟩ : ∃ t, t = z + m := ⟨_, rfl⟩
            rw [← ht] at hstep
            have k1 : IntKind.u64.wrap (m : Int) = (m : Int) := by rw [IntKind.wrap_u64]; omega
            have k2 : (m : Int) % 18446744073709551616 = (m : Int) := by omega
            have k3 : (z : Int) + (m : Int) = (t : Int) := by omega
            have k4 : IntKind.u64.wrap (t : Int) = (t : Int) := by rw [IntKind.wrap_u64]; omega
            have k5 : (t : Int) % 18446744073709551616 = (t : Int) := by omega
            have k6 : IntKind.i64.wrap (q : Int) = (q : Int) := by rw [IntKind.wrap_i64]; omega
            have hfz := hN.fz q
            have hcn : wr.cell? ⟨w.heap.size + 3, q, none⟩ = some (.int .u64 (z : Int)) := by
              rw [hN.cell, nv_at n q (by omega), hz2]
            have hNB : ∀ p, (n.set q t).getD p 0 ≤ (5 * i + (j + 1)) * 2 ^ 57 := fun p => by
              rw [set_getD n q p t (by omega)]
              have := hnb p
              by_cases e : p = q
              · rw [if_pos e]; omega
              · rw [if_neg e]; exact Nat.le_trans this (Nat.mul_le_mul_right _ (Nat.le_succ _))
            have hB2 : (wr.setCell ⟨w.heap.size + 3, q, none⟩ (.int .u64 (t : Int))).heap[w.heap.size + 1]? = some (.cells B 132 (0, 0)) := by
              rw [heap_setCell_other _ _ _ _ (by simp)]; exact hB
            have hN2 : Blk (wr.setCell ⟨w.heap.size + 3, q, none⟩ (.int .u64 (t : Int))) (w.heap.size + 3) 132 ((n.set q t).map nv) := by
              rw [List.map_set]; exact hN.set q (nv t)
            have hR2 : Blk (wr.setCell ⟨w.heap.size + 3, q, none⟩ (.int .u64 (t : Int))) (w.heap.size + 2) 132 (zero5L.map nv) := hR.other _ _ (by simp)
            have hG2 : w.grownBy (wr.setCell ⟨w.heap.size + 3, q, none⟩ (.int .u64 (t : Int))) none := gb_setCell hg _ _ (Or.inl (by simp))
            have hNL : (n.set q t).length = 5 := by simp [hnl]
            have HST := hide hstep
            have HNB := hide hNB
            have HB2 := hide hB2
            have HN2 := hide hN2
            have HR2 := hide hR2
            have HG2 := hide hG2
            have HNL := hide hNL
            clear hstep hNB hB2 hN2 hR2 hG2 hNL hB hN hR hnb hnv hnl hye hm hz2 ht hzb hxy hq hqe
            go_wp2
            go_roundw
            case rel => exact ⟨j + 1, n.set q t, by omega, by go_num, unhide HNL, unhide HST, unhide HNB, unhide HB2, unhide HN2, unhide HR2, unhide HG2⟩
            case measure => simp [intOf]; omega
          · have hqe : (i + j) % 5 = i + j - 5 := by omega
            rw [hqe, if_neg hij] at hstep
            obtain ⟨q, hq⟩ : ∃ q, q = i + j - 5 := ⟨_, rfl⟩
            obtain ⟨x5, hx5⟩ : ∃ m, m = 5 * x := ⟨_, rfl⟩
            obtain ⟨m, hm⟩ : ∃ m, m = 5 * x * y := ⟨_, rfl⟩
            have hm1 : m < 2 ^ 57 := by rw [hm, Nat.mul_assoc]; omega
            obtain ⟨p, hp⟩ : ∃ p, p = i + j := ⟨_, rfl⟩
            have g1 : (i : Int) + (j : Int) = (p : Int) := by omega
            have g2 : ¬ (p : Int) < 5 := by omega
            have g9 : (p : Int) - 5 = (q : Int) := by omega
            have g10 : (q : Int) < 5 := by omega
            have g3 : (0 : Int) ≤ (q : Int) := by omega
            have g5 : (5 : Int) * (x : Int) = (x5 : Int) := by omega
            have g6 : IntKind.u64.wrap (x5 : Int) = (x5 : Int) := by rw [IntKind.wrap_u64]; omega
            have g7 : (x5 : Int) % 18446744073709551616 = (x5 : Int) := by omega
            have g8 : IntKind.i64.wrap (p : Int) = (p : Int) := by rw [IntKind.wrap_i64]; omega
            have g11 : IntKind.i64.wrap (q : Int) = (q : Int) := by rw [IntKind.wrap_i64]; omega
            have g4 : (x5 : Int) * (y : Int) = (m : Int) := by rw [hm, hx5]; exact (Int.natCast_mul _ y).symm
            have hq5 : q < 5 := by omega
            rw [← hq, ← hm] at hstep
            obtain ⟨z, hz2⟩ : ∃ z, z = n.getD q 0 := ⟨_, rfl⟩
            have hzb := hnb q
            rw [← hz2] at hzb hstep
            obtain ⟨t, ht⟩ : ∃ t, t = z + m := ⟨_, rfl⟩
            rw [← ht] at hstep
            have k1 : IntKind.u64.wrap (m : Int) = (m : Int) := by rw [IntKind.wrap_u64]; omega
            have k2 : (m : Int) % 18446744073709551616 = (m : Int) := by omega
            have k3 : (z : Int) + (m : Int) = (t : Int) := by omega
            have k4 : IntKind.u64.wrap (t : Int) = (t : Int) := by rw [IntKind.wrap_u64]; omega
            have k5 : (t : Int) % 18446744073709551616 = (t : Int) := by omega
            have k6 : IntKind.i64.wrap (q : Int) = (q : Int) := by rw [IntKind.wrap_i64]; omega
            have hfz := hN.fz q
            have hcn : wr.cell? ⟨w.heap.size + 3, q, none⟩ = some (.int .u64 (z : Int)) := by
              rw [hN.cell, nv_at n q (by omega), hz2]
            have hNB : ∀ p, (n.set q t).getD p 0 ≤ (5 * i + (j + 1)) * 2 ^ 57 := fun p => by
              rw [set_getD n q p t (by omega)]
              have := hnb p
              by_cases e : p = q
              · rw [if_pos e]; omega
              · rw [if_neg e]; exact Nat.le_trans this (Nat.mul_le_mul_right _ (Nat.le_succ _))
            have hB2 : (wr.setCell ⟨w.heap.size + 3, q, none⟩ (.int .u64 (t : Int))).heap[w.heap.size + 1]? = some (.cells B 132 (0, 0)) := by
              rw [heap_setCell_other _ _ _ _ (by simp)]; exact hB
            have hN2 : Blk (wr.setCell ⟨w.heap.size + 3, q, none⟩ (.int .u64 (t : Int))) (w.heap.size + 3) 132 ((n.set q t).map nv) := by
              rw [List.map_set]; exact hN.set q (nv t)
            have hR2 : Blk (wr.setCell ⟨w.heap.size + 3, q, none⟩ (.int .u64 (t : Int))) (w.heap.size + 2) 132 (zero5L.map nv) := hR.other _ _ (by simp)
            have hG2 : w.grownBy (wr.setCell ⟨w.heap.size + 3, q, none⟩ (.int .u64 (t : Int))) none := gb_setCell hg _ _ (Or.inl (by simp))
            have hNL : (n.set q t).length = 5 := by simp [hnl]
            have HST := hide hstep
            have HNB := hide hNB
            have HB2 := hide hB2
            have HN2 := hide hN2
            have HR2 := hide hR2
            have HG2 := hide hG2
            have HNL := hide hNL
            clear hstep hNB hB2 hN2 hR2 hG2 hNL hB hN hR hnb hnv hnl hye hm hz2 ht hzb hxy hq hp hx5 hqe
            go_wp2
            go_roundw
            case rel => exact ⟨j + 1, n.set q t, by omega, by go_num, unhide HNL, unhide HST, unhide HNB, unhide HB2, unhide HN2, unhide HR2, unhide HG2⟩
            case measure => simp [intOf]; omega
        · have c1 : ¬ (j : Int) < 5 := by omega
          obtain rfl : j = 5 := by omega
          rw [List.take_of_length_le (l := b) (by rw [unhide HBL]; exact Nat.le_refl _), ← Nat.add_mul, ← unhide HTA] at hnv
          have hnb2 : ∀ q, n.getD q 0 ≤ (5 * (i + 1)) * 2 ^ 57 := fun q => by rw [Nat.mul_add]; exact hnb q
          rw [show ((5 : Nat) : Int) = 5 from rfl] at c1 ⊢
          have HNB := hide hnb2
          have HNV := hide hnv
          have HNL := hide hnl
          have HB := hide hB
          have HN := hide hN
          have HR := hide hR
          clear hnb hnb2 hnv hnl hB hN hR
          go_wp2
          go_roundw
          case rel => exact ⟨i + 1, n, by omega, by go_num, unhide HNL, unhide HNV, unhide HNB, unhide HB, unhide HN, unhide HR, hg⟩
          case measure => simp [intOf]; omega
    · obtain rfl : i = 5 := by omega
      rw [show ((5 : Nat) : Int) = 5 from rfl]
      rw [List.take_of_length_le (l := a) (by rw [unhide HAL]; exact Nat.le_refl _)] at hnv
      have hb62 : ∀ q, n.getD q 0 < 2 ^ 62 := fun q => by have := hnb q; omega
      have hf1 := fold5_any wr n hnl hb62
      obtain ⟨D, hD⟩ : ∃ D, D = foldL n := ⟨_, rfl⟩
      have hDl : D.length = 5 := by rw [hD]; exact foldL_length n
      have hDb := fold_first n hb62
      rw [← hD] at hf1 hDb
      obtain ⟨E, hE⟩ : ∃ E, E = foldL D := ⟨_, rfl⟩
      have hEl : Lin5 E := by rw [hE]; exact fold_again D hDl hDb.1 hDb.2
      have hEv : v26 E % pN = v26 a * v26 b % pN := by rw [hE, fold_mod D hDl, hD, fold_mod n hnl, hnv]
      have hf2 : ∀ W, Calls Tryd.prog 98 #[num D] W fun e w' => e = .returned (num E) ∧ W.grownBy w' none := fun W => by
        rw [hE]; exact fold5_any W D hDl (fun k => by
          rcases Nat.eq_zero_or_pos k with h | h
          · rw [h]; have := hDb.1; omega
          · have := hDb.2 k h; omega)
      unfold num at hf1 hf2
      have hin := info5n n hnl
      have hiE := info5n E hEl.1
      have hsE := num_size E hEl.1
      have HIN := hide hin
      have HIE := hide hiE
      have HSE := hide hsE
      have HEL := hide hEl
      have HEV := hide hEv
      have HN := hide hN
      have HR := hide hR
      clear hin hiE hsE hEl hEv hN hR hB hD hE hDb hDl hnb hnv hnl hb62
      go_wp2_with (first
        | (refine wpList_load_row rfl 132 _ rfl (w.heap.size + 3) rfl _ _ _ _ (unhide HN) Tryd.underlying132 rfl ?_ ?_; (exact unhide HIN))
        | (go_at_call 98; refine hf1.mono ?_; rintro e w2 ⟨rfl, g2⟩; have hR2 := (unhide HR).kept g2 (by simp); clear hf1)
        | (go_at_call 98; refine (hf2 _).mono ?_; rintro e w3 ⟨rfl, g3⟩; have hR3 := hR2.kept g3 (by simp))
        | (refine wpList_store_row rfl 132 _ _ rfl (w.heap.size + 2) _ rfl rfl _ _ hR3 ?_ ?_ ?_ ?_; (exact unhide HIE); (rw [unhide HSE]; rfl); (exact all_oneCell_toArray (nv_one _))))
      have hS := hR3.row (E.map nv)
      refine bodyPost_ret (v := num E) (results_cell_row (g := w.heap.size + 2) rfl _ _ _ _ _ _ ?_ hS Tryd.underlying132 rfl (unhide HIE)) rfl ⟨E, unhide HEL, unhide HEV, rfl, ?_⟩
      · rfl
      · exact gb_row (gb_trans (gb_trans hg g2 (fun _ e => by cases e)) g3 (fun _ e => by cases e)) _ (Or.inl (by omega))
end Go.Proofs.YtjckdgapefaokaaDoor
