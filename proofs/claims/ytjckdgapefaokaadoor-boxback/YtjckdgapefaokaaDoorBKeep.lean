/- What box's own keep leaves, and what Known answers. No condition but those that each lemma names. -/
import Derived.Test.YtjckdgapefaokaaDoorBNew
namespace Go.Proofs.YtjckdgapefaokaaDoor
open Go.RowKit

theorem info_cont : (Tryd.prog.info? 83).map (·.size) = some 34 := by kernel_rfl
theorem zero_cont (w : World) : (zeroValue 83).run Tryd.prog w = .ok (contV ⟨[], [], [], []⟩) w := by kernel_rfl

theorem BoxAt.with {u w : World} {bb bs bm : Nat} {B : BoxS} (h : BoxAt u w bb bs bm B) (C : BoxS) (h1 : C.mode = B.mode) (h2 : C.T = B.T) (h3 : C.u = B.u) (h4 : C.L = B.L) : BoxAt u w bb bs bm C := by
  obtain ⟨m, T, us, L⟩ := B
  obtain ⟨m', T', us', L'⟩ := C
  simp only at h1 h2 h3 h4
  subst h1 h2 h3 h4
  exact h

set_option maxRecDepth 100000 in
set_option maxHeartbeats 1000000 in
theorem keep_any (u w : World) (bb bs bm : Nat) (B : BoxS) (x : Ent) (ao : Option Addr) (c : Nat) (h : BoxAt u w bb bs bm B) (hs : BtT w ao c x.s) (hx : ∀ y, firstOf B.L x.s = some y → contV y = contV x) (hk : x.k.length ≤ 32) (hL : B.L.length ≤ 4611686018427387904) :
    Calls Tryd.prog 42 #[.pointer (some ⟨bb, 0, none⟩), .slice ao x.s.length c, contV x] w fun e w' => e = .returned (.tuple #[]) ∧ BoxAt u w' bb bs bm { B with L := B.L ++ [x] } ∧ By3 w w' bb bs bm := by
  have hbm := h.map.lt
  have hbb := h.blk.lt
  obtain ⟨CL, hCL⟩ : ∃ CL, CL = contC x := ⟨_, rfl⟩
  have hsC : CL.length = 34 := by rw [hCL]; exact contC_length x hk
  obtain ⟨W1, hW1⟩ : ∃ W1, W1 = w.alloc (.cells CL.toArray 83) := ⟨_, rfl⟩
  have g1 : w.grownBy W1 none := by rw [hW1]; exact gb_alloc (gb_refl _ _) _
  have h1 := h.none g1
  have hs1 := hs.none g1
  have hC1 : Blk W1 w.heap.size 83 CL := by rw [hW1]; exact Blk.new w _ _
  have hrC : W1.rangeAt w.heap.size 0 CL := by
    have := Blk.range (A := []) (vs := CL) (C := []) (by simpa using hC1)
    simpa using this
  have hi34 : (Tryd.prog.info? 83).map (·.size) = some CL.length := by rw [hsC]; exact info_cont
  obtain ⟨w2, hrun0, hM2, g2⟩ := (h1.map.kept (gb_drew (gb_refl W1 none)) (by simp)).store (P := Tryd.prog) 56 9 83 Tryd.underlying56 Tryd.underlying9 x hx
  obtain ⟨sx, hsx⟩ : ∃ sx, sx = str x.s := ⟨_, rfl⟩
  have hrun : (Instr.mapUpdate 56 (.map (some bm)) (.string sx) (.agg CL.toArray)).run Tryd.prog W1.drew = .ok () w2 := by rw [hsx, hCL]; exact hrun0
  have g2' : W1.grownBy w2 (some bm) := gb_trans (gb_drew (gb_refl _ _)) g2 (fun _ e => Or.inr e)
  have hnb : some bb ≠ some bm := fun e => h1.map.blk h1.blk (by cases e; rfl)
  have hnc : some w.heap.size ≠ some bm := fun e => by cases e; omega
  have hc2 := h1.cell.2.2.1
  have hcv : ∀ V, W1.grownBy V (some bm) → (convert 22 9 (.slice ao x.s.length c)).run Tryd.prog V = .ok (.string sx) V := fun V hV => by
    rw [hsx]
    refine conv_str (hs1.bts.kept hV (fun y e ad e2 e3 => ?_))
    cases e
    exact h1.map.typ (by rw [← e3]; exact hs1.typ ad e2)
  have hB2 := h1.blk.kept g2' hnb
  obtain ⟨N, hN⟩ : ∃ N : Int, N = (B.L.length : Int) := ⟨_, rfl⟩
  have hc3 : w2.cell? ⟨bb, 3, none⟩ = some (.int .i64 N) := by rw [hB2.cell, hN]; rfl
  have hf3 := hB2.fz 3
  have hwN : IntKind.i64.wrap (N + 1) = N + 1 := by rw [IntKind.wrap_i64]; omega
  have hfin : BoxAt u (w2.setCell ⟨bb, 3, none⟩ (.int .i64 (N + 1))) bb bs bm { B with L := B.L ++ [x] } ∧ By3 w (w2.setCell ⟨bb, 3, none⟩ (.int .i64 (N + 1))) bb bs bm := by
    have g3 := gb_set w2 bb 3 (.int .i64 (N + 1))
    refine ⟨⟨h.nb, h.ns, h.nm, ?_, (h1.src.kept g2' (fun e => h1.map.blk h1.src.blk (by cases e; rfl))).kept g3 (fun e => h1.bs_ne (by cases e; rfl)), hM2.kept g3 (fun e => hnb (by rw [e]))⟩, ?_⟩
    · have := hB2.set 3 (.int .i64 (N + 1))
      have e : (boxC B bs bm).set 3 (.int .i64 (N + 1)) = boxC { B with L := B.L ++ [x] } bs bm := by
        simp [boxC, hN]
      rw [e] at this
      exact this
    · exact (((By3.refl w bb bs bm).none g1).by g2' (fun y e => by cases e; exact Or.inr (Or.inr (Or.inr rfl)))).by g3 (fun y e => by cases e; exact Or.inr (Or.inl rfl))
  obtain ⟨n, hn⟩ : ∃ n, n = x.s.length := ⟨_, rfl⟩
  rw [← hn] at hcv ⊢
  rw [show contV x = .agg CL.toArray by rw [hCL]; rfl]
  have h0 : W1.grownBy W1.drew (some bm) := gb_drew (gb_refl _ _)
  have HW1 := hide hW1
  have HNB := hide hnb
  have HNC := hide hnc
  have HFIN := hide hfin
  clear hCL hsC hW1 g1 h1 hs1 hC1 hM2 g2 hsx hrun0 hnb hnc hN hfin hn hx hk hL h hs hbm hbb hB2
  have g2 := g2'
  clear g2'
  go_enter Tryd.func42, Tryd.ntmps42
  go_upto_region 1 with fail
  rw [← unhide HW1]
  refine wp_region_noPanic ?_
  refine wp_region_held_drew (S := fun V => W1.grownBy V (some bm)) (by kernel_rfl) h0 (fun _ => ?_)
  refine wpAnyH_take (i := 0) (oi := { dst := some 6, op := Op.move (Operand.tmp 0), type := _, pos := _, after := _, guard := _ }) (v := .pointer (some ⟨bb, 0, none⟩)) rfl (by kernel_rfl) (by kernel_rfl) (by kernel_rfl) (fun _ _ _ h => h) (Or.inl ⟨by rfl, fun V (hV : W1.grownBy V (some bm)) => by go_simp⟩) h0 ?_
  (try simp only [Act.put, List.setIfInBounds_toArray, List.set_cons_zero, List.set_cons_succ])
  refine wpAnyH_take (i := 1) (oi := { dst := some 7, op := Op.nilCheck (Operand.tmp 6), type := _, pos := _, after := _, guard := _ }) (v := .pointer (some ⟨bb, 0, none⟩)) rfl (by kernel_rfl) (by kernel_rfl) (by kernel_rfl) (fun _ _ _ h => h) (Or.inl ⟨by rfl, fun V (hV : W1.grownBy V (some bm)) => by go_simp⟩) h0 ?_
  (try simp only [Act.put, List.setIfInBounds_toArray, List.set_cons_zero, List.set_cons_succ])
  refine wpAnyH_take (i := 2) (oi := { dst := some 8, op := Op.fieldAddr 58 (Operand.tmp 7) 2, type := _, pos := _, after := _, guard := _ }) (v := .pointer (some ⟨bb, 2, none⟩)) rfl (by kernel_rfl) (by kernel_rfl) (by kernel_rfl) (fun _ _ _ h => h) (Or.inl ⟨by rfl, fun V (hV : W1.grownBy V (some bm)) => by go_simp⟩) h0 ?_
  (try simp only [Act.put, List.setIfInBounds_toArray, List.set_cons_zero, List.set_cons_succ])
  refine wpAnyH_take (i := 3) (oi := { dst := some 9, op := Op.load 56 (Operand.tmp 8), type := _, pos := _, after := _, guard := _ }) (v := .map (some bm)) rfl (by kernel_rfl) (by kernel_rfl) (by kernel_rfl) (fun _ _ _ h => h) (Or.inl ⟨by rfl, fun V (hV : W1.grownBy V (some bm)) => by (have hv1 := hV.cell hc2 (unhide HNB); go_simp)⟩) h0 ?_
  (try simp only [Act.put, List.setIfInBounds_toArray, List.set_cons_zero, List.set_cons_succ])
  refine wpAnyH_take (i := 4) (oi := { dst := some 10, op := Op.move (Operand.tmp 1), type := _, pos := _, after := _, guard := _ }) (v := .slice ao n c) rfl (by kernel_rfl) (by kernel_rfl) (by kernel_rfl) (fun _ _ _ h => h) (Or.inl ⟨by rfl, fun V (hV : W1.grownBy V (some bm)) => by go_simp⟩) h0 ?_
  (try simp only [Act.put, List.setIfInBounds_toArray, List.set_cons_zero, List.set_cons_succ])
  refine wpAnyH_take (i := 5) (oi := { dst := some 11, op := Op.convert 22 9 (Operand.tmp 10), type := _, pos := _, after := _, guard := _ }) (v := .string sx) rfl (by kernel_rfl) (by kernel_rfl) (by kernel_rfl) (fun _ _ _ h => h) (Or.inl ⟨by rfl, fun V (hV : W1.grownBy V (some bm)) => by (have hv9 := hcv V hV; go_simp)⟩) h0 ?_
  (try simp only [Act.put, List.setIfInBounds_toArray, List.set_cons_zero, List.set_cons_succ])
  refine wpAnyH_take (i := 6) (oi := { dst := some 12, op := Op.load 83 (Operand.tmp 5), type := _, pos := _, after := _, guard := _ }) (v := .agg CL.toArray) rfl (by kernel_rfl) (by kernel_rfl) (by kernel_rfl) (fun _ _ _ h => h) (yieldsIf_load_mid (by rfl) _ _ rfl _ _ rfl CL _ (fun V hV => range_kept hrC hV (unhide HNC)) Tryd.underlying83 rfl hi34) h0 ?_
  (try simp only [Act.put, List.setIfInBounds_toArray, List.set_cons_zero, List.set_cons_succ])
  refine wpAnyH_ready (rs := [7]) (by kernel_rfl) (by simp) ?_
  refine AllReadyH.cons (o := { dst := none, op := Op.mapUpdate 56 (Operand.tmp 9) (Operand.tmp 11) (Operand.tmp 12), type := _, pos := _, after := _, guard := _ }) rfl (fun K9 hK9 => ?_) AllReadyH.nil
  go_simp
  refine hK9.out _ _ g2 (fun _ => ?_)
  clear hK9 K9
  (try simp only [Act.put, List.setIfInBounds_toArray, List.set_cons_zero, List.set_cons_succ])
  refine wpAnyH_done (by kernel_rfl) ?_ _
  refine NoPanic.normal ?_
  clear hrun
  go_wp2
  go_end0
  exact ⟨rfl, unhide HFIN⟩

set_option maxRecDepth 100000 in
set_option maxHeartbeats 1000000 in
theorem known_any (u W1 : World) (bb bs bm : Nat) (B : BoxS) (s : List UInt8) (ao : Option Addr) (c : Nat) (h : BoxAt u W1 bb bs bm B) (hs : Bts W1 ao c s) (hk : ∀ x ∈ B.L, x.k.length ≤ 32) :
    Calls Tryd.prog 16 #[.pointer (some ⟨bb, 0, none⟩), .slice ao s.length c] W1 fun e w' => e = .returned (.bool (B.known s)) ∧ W1.grownBy w' none := by
  rw [known_first]
  obtain ⟨_, hc1, hc2, _⟩ := h.cell
  have c1 := made_at W1 bb ⟨bs, 0, none⟩ hc1
  obtain ⟨sx, hsx⟩ : ∃ sx, sx = str s := ⟨_, rfl⟩
  obtain ⟨r9, hr9⟩ : ∃ r9, r9 = (firstOf B.L s).isSome := ⟨_, rfl⟩
  obtain ⟨y, hy⟩ : ∃ y : Ent, y = (firstOf B.L s).getD ⟨[], [], [], []⟩ := ⟨_, rfl⟩
  obtain ⟨CL, hCL⟩ : ∃ CL, CL = contC y := ⟨_, rfl⟩
  obtain ⟨ZL, hZL⟩ : ∃ ZL, ZL = contC ⟨[], [], [], []⟩ := ⟨_, rfl⟩
  have hyk : y.k.length ≤ 32 := by
    rw [hy]
    cases hf : firstOf B.L s with
    | none => decide
    | some z => exact hk z (List.mem_of_find?_eq_some hf)
  have hsC : CL.toArray.size = 34 := by rw [hCL]; simpa using contC_length y hyk
  have hsZ : ZL.toArray.size = 34 := by rw [hZL]; rfl
  have hoC : CL.toArray.all (·.oneCell') = true := by rw [hCL]; exact all_oneCell_toArray (contC_one y)
  have hzv : ∀ w, (zeroValue 83).run Tryd.prog w = .ok (.agg ZL.toArray) w := fun w => by rw [hZL]; exact zero_cont w
  have hlk : ∀ V, W1.grownBy V none → (Instr.lookup 56 (.map (some bm)) (.string sx) true).run Tryd.prog V = .ok (.tuple #[.agg CL.toArray, .bool r9]) V := fun V hV => by
    have := (h.map.kept hV (by simp)).look (P := Tryd.prog) 56 9 83 Tryd.underlying56 Tryd.underlying9 _ (zero_cont V) s
    rw [hsx, this, hr9, hCL, hy]
    cases firstOf B.L s <;> rfl
  have hcv : ∀ V, W1.grownBy V none → (convert 22 9 (.slice ao s.length c)).run Tryd.prog V = .ok (.string sx) V := fun V hV => by
    rw [hsx]
    exact conv_str (hs.kept hV (fun _ e => by cases e))
  obtain ⟨n, hn⟩ : ∃ n, n = s.length := ⟨_, rfl⟩
  rw [← hn] at hcv ⊢
  rw [← hr9]
  have h0 : W1.grownBy W1.drew none := gb_drew (gb_refl _ _)
  have HSC := hide hsC
  have HSZ := hide hsZ
  have HOC := hide hoC
  clear hsx hr9 hy hCL hZL hyk hsC hsZ hoC hn h hs hk
  go_enter Tryd.func16, Tryd.ntmps16
  go_upto_region 3 with (go_at_call 27; refine c1.mono ?_; rintro e w2 ⟨rfl, e2⟩; subst w2)
  refine wp_region_noPanic ?_
  refine wp_region_held_drew (S := fun V => W1.grownBy V none) (by kernel_rfl) h0 (fun _ => ?_)
  refine wpAnyH_take (i := 0) (oi := { dst := some 11, op := Op.move (Operand.tmp 0), type := _, pos := _, after := _, guard := _ }) (v := .pointer (some ⟨bb, 0, none⟩)) rfl (by kernel_rfl) (by kernel_rfl) (by kernel_rfl) (fun _ _ _ h => h) (Or.inl ⟨by rfl, fun V (hV : W1.grownBy V none) => by go_simp⟩) h0 ?_
  (try simp only [Act.put, List.setIfInBounds_toArray, List.set_cons_zero, List.set_cons_succ])
  refine wpAnyH_take (i := 1) (oi := { dst := some 12, op := Op.nilCheck (Operand.tmp 11), type := _, pos := _, after := _, guard := _ }) (v := .pointer (some ⟨bb, 0, none⟩)) rfl (by kernel_rfl) (by kernel_rfl) (by kernel_rfl) (fun _ _ _ h => h) (Or.inl ⟨by rfl, fun V (hV : W1.grownBy V none) => by go_simp⟩) h0 ?_
  (try simp only [Act.put, List.setIfInBounds_toArray, List.set_cons_zero, List.set_cons_succ])
  refine wpAnyH_take (i := 2) (oi := { dst := some 13, op := Op.fieldAddr 58 (Operand.tmp 12) 2, type := _, pos := _, after := _, guard := _ }) (v := .pointer (some ⟨bb, 2, none⟩)) rfl (by kernel_rfl) (by kernel_rfl) (by kernel_rfl) (fun _ _ _ h => h) (Or.inl ⟨by rfl, fun V (hV : W1.grownBy V none) => by go_simp⟩) h0 ?_
  (try simp only [Act.put, List.setIfInBounds_toArray, List.set_cons_zero, List.set_cons_succ])
  refine wpAnyH_take (i := 3) (oi := { dst := some 14, op := Op.load 56 (Operand.tmp 13), type := _, pos := _, after := _, guard := _ }) (v := .map (some bm)) rfl (by kernel_rfl) (by kernel_rfl) (by kernel_rfl) (fun _ _ _ h => h) (Or.inl ⟨by rfl, fun V (hV : W1.grownBy V none) => by (have hv1 := hV.cell hc2 (by simp); go_simp)⟩) h0 ?_
  (try simp only [Act.put, List.setIfInBounds_toArray, List.set_cons_zero, List.set_cons_succ])
  refine wpAnyH_take (i := 4) (oi := { dst := some 15, op := Op.move (Operand.tmp 1), type := _, pos := _, after := _, guard := _ }) (v := .slice ao n c) rfl (by kernel_rfl) (by kernel_rfl) (by kernel_rfl) (fun _ _ _ h => h) (Or.inl ⟨by rfl, fun V (hV : W1.grownBy V none) => by go_simp⟩) h0 ?_
  (try simp only [Act.put, List.setIfInBounds_toArray, List.set_cons_zero, List.set_cons_succ])
  refine wpAnyH_take (i := 5) (oi := { dst := some 16, op := Op.convert 22 9 (Operand.tmp 15), type := _, pos := _, after := _, guard := _ }) (v := .string sx) rfl (by kernel_rfl) (by kernel_rfl) (by kernel_rfl) (fun _ _ _ h => h) (Or.inl ⟨by rfl, fun V (hV : W1.grownBy V none) => by (have hv9 := hcv V hV; go_simp)⟩) h0 ?_
  (try simp only [Act.put, List.setIfInBounds_toArray, List.set_cons_zero, List.set_cons_succ])
  refine wpAnyH_take (i := 6) (oi := { dst := some 17, op := Op.lookup 56 (Operand.tmp 14) (Operand.tmp 16) true, type := _, pos := _, after := _, guard := _ }) (v := .tuple #[.agg CL.toArray, .bool r9]) rfl (by kernel_rfl) (by kernel_rfl) (by kernel_rfl) (fun _ _ _ h => h) (Or.inl ⟨by rfl, fun V (hV : W1.grownBy V none) => by (have hv9 := hlk V hV; go_simp)⟩) h0 ?_
  (try simp only [Act.put, List.setIfInBounds_toArray, List.set_cons_zero, List.set_cons_succ])
  refine wpAnyH_take (i := 7) (oi := { dst := some 10, op := Op.move (Operand.tmp 17), type := _, pos := _, after := _, guard := _ }) (v := .tuple #[.agg CL.toArray, .bool r9]) rfl (by kernel_rfl) (by kernel_rfl) (by kernel_rfl) (fun _ _ _ h => h) (Or.inl ⟨by rfl, fun V (hV : W1.grownBy V none) => by go_simp⟩) h0 ?_
  (try simp only [Act.put, List.setIfInBounds_toArray, List.set_cons_zero, List.set_cons_succ])
  refine wpAnyH_take (i := 8) (oi := { dst := some 18, op := Op.extract (Operand.tmp 10) 0, type := _, pos := _, after := _, guard := _ }) (v := .agg CL.toArray) rfl (by kernel_rfl) (by kernel_rfl) (by kernel_rfl) (fun _ _ _ h => h) (Or.inl ⟨by rfl, fun V (hV : W1.grownBy V none) => by go_simp⟩) h0 ?_
  (try simp only [Act.put, List.setIfInBounds_toArray, List.set_cons_zero, List.set_cons_succ])
  refine wpAnyH_take (i := 9) (oi := { dst := some 19, op := Op.extract (Operand.tmp 10) 1, type := _, pos := _, after := _, guard := _ }) (v := .bool r9) rfl (by kernel_rfl) (by kernel_rfl) (by kernel_rfl) (fun _ _ _ h => h) (Or.inl ⟨by rfl, fun V (hV : W1.grownBy V none) => by go_simp⟩) h0 ?_
  (try simp only [Act.put, List.setIfInBounds_toArray, List.set_cons_zero, List.set_cons_succ])
  refine wpAnyH_ready (rs := [10]) (by kernel_rfl) (by simp) ?_
  refine AllReadyH.cons (o := { dst := some 5, op := Op.alloc 83, type := _, pos := _, after := _, guard := _ }) rfl (fun K9 hK9 => ?_) AllReadyH.nil
  go_simp
  refine hK9.out _ _ (gb_alloc h0 _) (fun _ => ?_)
  clear hK9 K9
  (try simp only [Act.put, List.setIfInBounds_toArray, List.set_cons_zero, List.set_cons_succ])
  have hN2 : Blk (W1.drew.alloc (.cells ZL.toArray 83)) W1.heap.size 83 ZL := Blk.new W1.drew _ ZL
  have gN2 := gb_alloc h0 (.cells ZL.toArray 83)
  obtain ⟨W2, hW2⟩ : ∃ W2, W2 = W1.drew.alloc (.cells ZL.toArray 83) := ⟨_, rfl⟩
  rw [show (W1.alloc (.cells ZL.toArray 83)).drew = W2 by rw [hW2]; rfl]
  rw [← hW2] at hN2 gN2
  clear hW2
  refine wpAnyH_ready (rs := [11]) (by kernel_rfl) (by simp) ?_
  refine AllReadyH.cons (o := { dst := none, op := Op.store 83 (Operand.tmp 5) (Operand.tmp 18), type := _, pos := _, after := _, guard := _ }) rfl (fun K9 hK9 => ?_) AllReadyH.nil
  rw [if_pos (by rfl)]
  refine wp_store_row _ _ _ rfl W1.heap.size _ rfl rfl _ _ hN2 (by rw [unhide HSC]; exact info_cont) (by rw [unhide HSC, unhide HSZ]) (unhide HOC) ?_
  refine hK9.out _ _ (gb_row gN2 _ (Or.inl (Nat.le_refl _))) (fun _ => ?_)
  clear hK9 K9
  (try simp only [Act.put])
  refine wpAnyH_take (i := 12) (oi := { dst := some 6, op := Op.assign (Operand.tmp 19), type := _, pos := _, after := _, guard := _ }) (v := .bool r9) rfl (by kernel_rfl) (by kernel_rfl) (by kernel_rfl) (fun _ _ _ h => h) (Or.inl ⟨by rfl, fun V (hV : W1.grownBy V none) => by go_simp⟩) (gb_row gN2 _ (Or.inl (Nat.le_refl _))) ?_
  (try simp only [Act.put, List.setIfInBounds_toArray, List.set_cons_zero, List.set_cons_succ])
  refine wpAnyH_done (by kernel_rfl) ?_ _
  refine NoPanic.normal ?_
  go_wp2
  go_ret
  exact ⟨rfl, gb_row gN2 _ (Or.inl (Nat.le_refl _))⟩

end Go.Proofs.YtjckdgapefaokaaDoor
