/- '[]byte(s)': a string's bytes, in memory of their own. No condition but those that each lemma names. -/
import Derived.Test.YtjckdgapefaokaaDoorMStr
import Derived.Test.YtjckdgapefaokaaDoorKEqual
import Derived.Laws.IdiomStrings
import Derived.Test.YtjckdgapefaokaaDoorBIdeal
namespace Go.Proofs.YtjckdgapefaokaaDoor
open Go.RowKit

/-- '[]byte(s)'. -/
theorem str_bytes (w : World) (l : List UInt8) (hl : l.length ≤ maxLen) : ∃ cap W1, (convert 9 22 (.string (str l))).run Tryd.prog w = .ok (.slice (some ⟨w.heap.size, 0, none⟩) l.length cap) W1 ∧ Bts W1 (some ⟨w.heap.size, 0, none⟩) cap l ∧ w.grownBy W1 none := by
  have h := run_bytes_of_string (P := Tryd.prog) w 9 22 5 (str l) Tryd.underlying9 Tryd.underlying22 Tryd.underlying5
  rw [str_size] at h
  refine ⟨_, _, h, ?_, gb_alloc (gb_drew (gb_refl _ _)) _⟩
  refine ⟨(fun e => by cases e), grownCap_ge _ _ _ _, grownCap_le_maxLen _ _ _ _ hl, (fun ad e _ => by cases e; rfl), (fun ad e i hi => ?_)⟩
  cases e
  have hh : (w.drew.alloc (.cells (bytesRow (str l) (grownCap w l.length 0 5)) 5 ((bytesRow (str l) (grownCap w l.length 0 5)).size, (bytesRow (str l) (grownCap w l.length 0 5)).size + 1))).heap[w.heap.size]? = some (.cells (bytesRow (str l) (grownCap w l.length 0 5)) 5 ((bytesRow (str l) (grownCap w l.length 0 5)).size, (bytesRow (str l) (grownCap w l.length 0 5)).size + 1)) := heap_alloc_new w.drew _
  rw [show (⟨w.heap.size, 0, none⟩ : Addr).off + i = i from Nat.zero_add i, cell_of_row _ _ _ _ _ _ hh]
  unfold bytesRow
  rw [Array.getElem?_append_left (by simp [str]; exact hi)]
  simp [str, hi]

theorem str_typ (w : World) (l : List UInt8) (hl : l.length ≤ maxLen) : ∃ cap W1, (convert 9 22 (.string (str l))).run Tryd.prog w = .ok (.slice (some ⟨w.heap.size, 0, none⟩) l.length cap) W1 ∧ Bts W1 (some ⟨w.heap.size, 0, none⟩) cap l ∧ Typ W1 w.heap.size ∧ w.grownBy W1 none := by
  obtain ⟨cap, W1, h1, h2, h3⟩ := str_bytes w l hl
  refine ⟨cap, W1, h1, h2, ?_, h3⟩
  have h := run_bytes_of_string (P := Tryd.prog) w 9 22 5 (str l) Tryd.underlying9 Tryd.underlying22 Tryd.underlying5
  rw [h] at h1
  injection h1 with _ h4
  rw [← h4]
  exact ⟨_, _, heap_alloc_new w.drew _⟩

end Go.Proofs.YtjckdgapefaokaaDoor

/- What box's own openIdeal answers: what was sealed so, to its key and what was beside it, and to no other. No condition but those that each lemma names. -/
namespace Go.Proofs.YtjckdgapefaokaaDoor
open Go.RowKit

/-- The cells of whose it is. -/
def ownC (k be : List UInt8) : List Value := k.map bv ++ [.string (str be)]
theorem ownC_length (k be : List UInt8) (h : k.length = 32) : (ownC k be).length = 33 := by simp [ownC, h]
theorem info_own : (Tryd.prog.info? 81).map (·.size) = some 33 := by kernel_rfl

theorem po0 (w : World) (k be : List UInt8) (h : k.length = 32) : (part 37 (ownC k be).toArray 0).run Tryd.prog w = .ok (.agg (k.map bv).toArray) w := by
  obtain ⟨a0, a1, a2, a3, a4, a5, a6, a7, a8, a9, a10, a11, a12, a13, a14, a15, a16, a17, a18, a19, a20, a21, a22, a23, a24, a25, a26, a27, a28, a29, a30, a31, rfl⟩ := list32 k h
  kernel_rfl
theorem po1 (w : World) (k be : List UInt8) (h : k.length = 32) : (part 9 (ownC k be).toArray 32).run Tryd.prog w = .ok (.string (str be)) w := by
  obtain ⟨a0, a1, a2, a3, a4, a5, a6, a7, a8, a9, a10, a11, a12, a13, a14, a15, a16, a17, a18, a19, a20, a21, a22, a23, a24, a25, a26, a27, a28, a29, a30, a31, rfl⟩ := list32 k h
  kernel_rfl

theorem fields_own : Tryd.prog.underlying 81 = some (.struct (Tryd.prog.fieldsOf 81)) := by kernel_rfl
theorem held_own : Tryd.prog.stoodInHeld 81 = false := by kernel_rfl
theorem guard_own : Tryd.prog.eqGuardType Tryd.prog.depth 81 = false := by kernel_rfl
theorem own_fields : ∃ f0 f1 : Field, (Tryd.prog.fieldsOf 81).toList = [f0, f1] ∧ ((f0.name == "_") = false ∧ f0.type = 37 ∧ f0.offset = 0) ∧ ((f1.name == "_") = false ∧ f1.type = 9 ∧ f1.offset = 32) := by
  refine ⟨_, _, by rw [Program.fieldsOf, Tryd.underlying81], ⟨by decide, rfl, rfl⟩, ⟨by decide, rfl, rfl⟩⟩

theorem neq_own (w : World) (k be k2 be2 : List UInt8) (h : k.length = 32) (h2 : k2.length = 32) : (binOp .neq 81 (.agg (ownC k be).toArray) (.agg (ownC k2 be2).toArray)).run Tryd.prog w = .ok (.bool (!(k == k2 && be == be2))) w := by
  obtain ⟨f0, f1, hf, ⟨n0, t0, o0⟩, ⟨n1, t1, o1⟩⟩ := own_fields
  have e0 : (Op.equalIn 9999 37 (.agg (k.map bv).toArray) (.agg (k2.map bv).toArray)).run Tryd.prog w = .ok (k == k2) w := run_equalIn_bytes w 9997 37 5 32 Tryd.underlying37 Tryd.underlying5 size_byte k k2 h h2
  have e1 : (Op.equalIn 9999 9 (.string (str be)) (.string (str be2))).run Tryd.prog w = .ok (be == be2) w := by rw [run_equalIn_string w 9998 _ _ _ Tryd.underlying9, str_list, str_list]
  rw [run_neq_struct, run_equalIn_struct w 9999 _ _ _ fields_own held_own, hf,
    eq_one w 9999 _ _ f0 [f1] _ _ _ n0 (by rw [t0, o0]; exact po0 w k be h) (by rw [t0, o0]; exact po0 w k2 be2 h2) (by rw [t0]; exact e0)]
  by_cases hk : k = k2
  · rw [if_pos (by simpa using hk), eq_one w 9999 _ _ f1 [] _ _ _ n1 (by rw [t1, o1]; exact po1 w k be h) (by rw [t1, o1]; exact po1 w k2 be2 h2) (by rw [t1]; exact e1)]
    rw [show (k == k2) = true by simpa using hk, Bool.true_and]
    cases (be == be2) <;> rfl
  · rw [if_neg (by simpa using hk), show (k == k2) = false by simpa using hk, Bool.false_and]
    rfl

/-- Two structs held against each other, at a step that is wanted. -/
theorem wp_neq {P : Program} {o : Oper} {a : Act} {w : World} {K : Act → World → Prop} {Q : Exit → Act → World → Prop} (t t' : TypeId) (x y : Operand) (ho : o.op = .binOp .neq t x y t') (X Z : Array Value) (r : Bool)
    (hx : a.eval x = .agg X) (hy : a.eval y = .agg Z) (hm : P.eqGuardType P.depth t = false) (hq : (binOp .neq t (.agg X) (.agg Z)).run P w = .ok (.bool r) w)
    (h : K (a.put o.dst (.bool r)) w) : o.wp P a w K Q := by
  unfold Oper.wp execOp
  simp only [ho, hx, hy, Sem.run_bind, run_eqGuard_agg w .neq t x y X Z hm, hq, Result.andThen_ok]
  exact h

theorem opn_first {B : BoxS} (hm : B.mode = 1) (hn : B.ss.Nodup) (k be s : List UInt8) : B.opn k be s = match firstOf B.L s with | none => none | some y => if k = y.k ∧ be = y.be then some y.tx else none := by
  cases hf : firstOf B.L s with
  | none =>
    cases ho : B.opn k be s with
    | none => rfl
    | some x =>
      have := opn_known hm ho
      rw [known_first, hf] at this
      cases this
  | some y =>
    have h1 : y ∈ B.L := List.mem_of_find?_eq_some hf
    have h2 : y.s = s := by simpa using List.find?_some hf
    rw [← h2]
    exact opn_of hm hn h1 k be

theorem cont_split (y : Ent) (h : y.k.length = 32) : contC y = ownC y.k y.be ++ [.string (str y.tx)] := by
  simp [contC, ownC, padK_full h]

set_option maxRecDepth 100000 in
set_option maxHeartbeats 1000000 in
theorem openIdeal_any (u w : World) (bb bs bm : Nat) (B : BoxS) (k be s : List UInt8) (ao : Option Addr) (c : Nat) (h : BoxAt u w bb bs bm B) (hs : Bts w ao c s) (hk : k.length = 32) (hm : B.mode = 1) (hok : B.Ok) (htx : ∀ x ∈ B.L, x.tx.length ≤ 2000) :
    Calls Tryd.prog 33 #[.pointer (some ⟨bb, 0, none⟩), .agg (ownC k be).toArray, .slice ao s.length c] w fun e w' => ∃ xo xc, e = .returned (.tuple #[.slice xo (txtO (B.opn k be s)).length xc, .bool (B.opn k be s).isSome]) ∧ BtT w' xo xc (txtO (B.opn k be s)) ∧ w.grownBy w' none := by
  obtain ⟨OL, hOL⟩ : ∃ OL, OL = ownC k be := ⟨_, rfl⟩
  have hsO : OL.length = 33 := by rw [hOL]; exact ownC_length k be hk
  obtain ⟨W1, hW1⟩ : ∃ W1, W1 = w.alloc (.cells OL.toArray 81) := ⟨_, rfl⟩
  have g1 : w.grownBy W1 none := by rw [hW1]; exact gb_alloc (gb_refl _ _) _
  have hO1 : Blk W1 w.heap.size 81 OL := by rw [hW1]; exact Blk.new w _ _
  have h1 := h.none g1
  obtain ⟨_, _, hc2, _⟩ := h1.cell
  obtain ⟨sx, hsx⟩ : ∃ sx, sx = str s := ⟨_, rfl⟩
  obtain ⟨r9, hr9⟩ : ∃ r9, r9 = (firstOf B.L s).isSome := ⟨_, rfl⟩
  obtain ⟨y, hy⟩ : ∃ y : Ent, y = (firstOf B.L s).getD ⟨[], [], [], []⟩ := ⟨_, rfl⟩
  obtain ⟨CL, hCL⟩ : ∃ CL, CL = contC y := ⟨_, rfl⟩
  obtain ⟨ZL, hZL⟩ : ∃ ZL, ZL = contC ⟨[], [], [], []⟩ := ⟨_, rfl⟩
  have hyk : r9 = true → y.k.length = 32 ∧ y.tx.length ≤ 2000 := by
    rw [hr9, hy]
    cases hf : firstOf B.L s with
    | none => intro e; cases e
    | some z => exact fun _ => ⟨hok.keys hm z (List.mem_of_find?_eq_some hf), htx z (List.mem_of_find?_eq_some hf)⟩
  have hyk2 : y.k.length ≤ 32 := by
    rw [hy]
    cases hf : firstOf B.L s with
    | none => decide
    | some z => exact Nat.le_of_eq (hok.keys hm z (List.mem_of_find?_eq_some hf))
  have hopn : B.opn k be s = if r9 = true ∧ k = y.k ∧ be = y.be then some y.tx else none := by
    rw [opn_first hm (hok.apart hm), hr9, hy]
    cases hf : firstOf B.L s with
    | none => simp
    | some z => simp
  have hsC : CL.toArray.size = 34 := by rw [hCL]; simpa using contC_length y hyk2
  have hsZ : ZL.toArray.size = 34 := by rw [hZL]; rfl
  have hoC : CL.toArray.all (·.oneCell') = true := by rw [hCL]; exact all_oneCell_toArray (contC_one y)
  have hzv : ∀ w, (zeroValue 83).run Tryd.prog w = .ok (.agg ZL.toArray) w := fun w => by rw [hZL]; exact zero_cont w
  have hlk : ∀ V, W1.grownBy V none → (Instr.lookup 56 (.map (some bm)) (.string sx) true).run Tryd.prog V = .ok (.tuple #[.agg CL.toArray, .bool r9]) V := fun V hV => by
    have := (h1.map.kept hV (by simp)).look (P := Tryd.prog) 56 9 83 Tryd.underlying56 Tryd.underlying9 _ (zero_cont V) s
    rw [hsx, this, hr9, hCL, hy]
    cases firstOf B.L s <;> rfl
  have hcv : ∀ V, W1.grownBy V none → (convert 22 9 (.slice ao s.length c)).run Tryd.prog V = .ok (.string sx) V := fun V hV => by
    rw [hsx]
    exact conv_str (hs.kept (tn g1 hV) (fun _ e => by cases e))
  obtain ⟨n, hn⟩ : ∃ n, n = s.length := ⟨_, rfl⟩
  rw [← hn] at hcv ⊢
  rw [← hOL]
  have h0 : W1.grownBy W1.drew none := gb_drew (gb_refl _ _)
  have HSC := hide hsC
  have HSZ := hide hsZ
  have HOC := hide hoC
  have HW1 := hide hW1
  have HG1 := hide g1
  have HO1 := hide hO1
  cases r9 with
  | false =>
    rw [if_neg (by simp)] at hopn
    rw [hopn]
    clear hsx hr9 hy hCL hZL hyk hsC hsZ hoC hn h hs hk hopn hyk2 h1 hO1 g1 hW1 hOL hsO hok htx hm
    go_enter Tryd.func33, Tryd.ntmps33
    go_upto_region 1 with fail
    rw [← unhide HW1]
    refine wp_region_noPanic ?_
    refine wp_region_held_drew (S := fun V => W1.grownBy V none) (by kernel_rfl) h0 (fun _ => ?_)
    refine wpAnyH_take (i := 0) (oi := { dst := some 11, op := Op.move (Operand.tmp 0), type := _, pos := _, after := _, guard := _ }) (v := .pointer (some ⟨bb, 0, none⟩)) rfl (by kernel_rfl) (by kernel_rfl) (by kernel_rfl) (fun _ _ _ h => h) (Or.inl ⟨by rfl, fun V (hV : W1.grownBy V none) => by go_simp⟩) h0 ?_
    (try simp only [Act.put, List.setIfInBounds_toArray, List.set_cons_zero, List.set_cons_succ])
    refine wpAnyH_take (i := 1) (oi := { dst := some 12, op := Op.nilCheck (Operand.tmp 11), type := _, pos := _, after := _, guard := _ }) (v := .pointer (some ⟨bb, 0, none⟩)) rfl (by kernel_rfl) (by kernel_rfl) (by kernel_rfl) (fun _ _ _ h => h) (Or.inl ⟨by rfl, fun V (hV : W1.grownBy V none) => by go_simp⟩) h0 ?_
    (try simp only [Act.put, List.setIfInBounds_toArray, List.set_cons_zero, List.set_cons_succ])
    refine wpAnyH_take (i := 2) (oi := { dst := some 13, op := Op.fieldAddr 58 (Operand.tmp 12) 2, type := _, pos := _, after := _, guard := _ }) (v := .pointer (some ⟨bb, 2, none⟩)) rfl (by kernel_rfl) (by kernel_rfl) (by kernel_rfl) (fun _ _ _ h => h) (Or.inl ⟨by rfl, fun V (hV : W1.grownBy V none) => by go_simp⟩) h0 ?_
    (try simp only [Act.put, List.setIfInBounds_toArray, List.set_cons_zero, List.set_cons_succ])
    refine wpAnyH_take (i := 3) (oi := { dst := some 14, op := Op.load 56 (Operand.tmp 13), type := _, pos := _, after := _, guard := _ }) (v := .map (some bm)) rfl (by kernel_rfl) (by kernel_rfl) (by kernel_rfl) (fun _ _ _ h => h) (Or.inl ⟨by rfl, fun V (hV : W1.grownBy V none) => by (have hv1 := hV.cell hc2 (by simp); go_simp)⟩) h0 ?_
    (try simp only [Act.put, List.setIfInBounds_toArray, List.set_cons_zero, List.set_cons_succ])
    refine wpAnyH_take (i := 4) (oi := { dst := some 15, op := Op.move (Operand.tmp 2), type := _, pos := _, after := _, guard := _ }) (v := .slice ao n c) rfl (by kernel_rfl) (by kernel_rfl) (by kernel_rfl) (fun _ _ _ h => h) (Or.inl ⟨by rfl, fun V (hV : W1.grownBy V none) => by go_simp⟩) h0 ?_
    (try simp only [Act.put, List.setIfInBounds_toArray, List.set_cons_zero, List.set_cons_succ])
    refine wpAnyH_take (i := 5) (oi := { dst := some 16, op := Op.convert 22 9 (Operand.tmp 15), type := _, pos := _, after := _, guard := _ }) (v := .string sx) rfl (by kernel_rfl) (by kernel_rfl) (by kernel_rfl) (fun _ _ _ h => h) (Or.inl ⟨by rfl, fun V (hV : W1.grownBy V none) => by (have hv9 := hcv V hV; go_simp)⟩) h0 ?_
    (try simp only [Act.put, List.setIfInBounds_toArray, List.set_cons_zero, List.set_cons_succ])
    refine wpAnyH_take (i := 6) (oi := { dst := some 17, op := Op.lookup 56 (Operand.tmp 14) (Operand.tmp 16) true, type := _, pos := _, after := _, guard := _ }) (v := .tuple #[.agg CL.toArray, .bool false]) rfl (by kernel_rfl) (by kernel_rfl) (by kernel_rfl) (fun _ _ _ h => h) (Or.inl ⟨by rfl, fun V (hV : W1.grownBy V none) => by (have hv9 := hlk V hV; go_simp)⟩) h0 ?_
    (try simp only [Act.put, List.setIfInBounds_toArray, List.set_cons_zero, List.set_cons_succ])
    refine wpAnyH_take (i := 7) (oi := { dst := some 10, op := Op.move (Operand.tmp 17), type := _, pos := _, after := _, guard := _ }) (v := .tuple #[.agg CL.toArray, .bool false]) rfl (by kernel_rfl) (by kernel_rfl) (by kernel_rfl) (fun _ _ _ h => h) (Or.inl ⟨by rfl, fun V (hV : W1.grownBy V none) => by go_simp⟩) h0 ?_
    (try simp only [Act.put, List.setIfInBounds_toArray, List.set_cons_zero, List.set_cons_succ])
    refine wpAnyH_take (i := 8) (oi := { dst := some 18, op := Op.extract (Operand.tmp 10) 0, type := _, pos := _, after := _, guard := _ }) (v := .agg CL.toArray) rfl (by kernel_rfl) (by kernel_rfl) (by kernel_rfl) (fun _ _ _ h => h) (Or.inl ⟨by rfl, fun V (hV : W1.grownBy V none) => by go_simp⟩) h0 ?_
    (try simp only [Act.put, List.setIfInBounds_toArray, List.set_cons_zero, List.set_cons_succ])
    refine wpAnyH_take (i := 9) (oi := { dst := some 19, op := Op.extract (Operand.tmp 10) 1, type := _, pos := _, after := _, guard := _ }) (v := .bool false) rfl (by kernel_rfl) (by kernel_rfl) (by kernel_rfl) (fun _ _ _ h => h) (Or.inl ⟨by rfl, fun V (hV : W1.grownBy V none) => by go_simp⟩) h0 ?_
    (try simp only [Act.put, List.setIfInBounds_toArray, List.set_cons_zero, List.set_cons_succ])
    refine wpAnyH_ready (rs := [10]) (by kernel_rfl) (by simp) ?_
    refine AllReadyH.cons (o := { dst := some 8, op := Op.alloc 83, type := _, pos := _, after := _, guard := _ }) rfl (fun K9 hK9 => ?_) AllReadyH.nil
    go_simp
    refine hK9.out _ _ (gb_alloc h0 _) (fun _ => ?_)
    clear hK9 K9
    (try simp only [Act.put, List.setIfInBounds_toArray, List.set_cons_zero, List.set_cons_succ])
    have hN2 : Blk (W1.drew.alloc (.cells ZL.toArray 83)) W1.heap.size 83 ZL := Blk.new W1.drew _ ZL
    have gN2 := gb_alloc h0 (.cells ZL.toArray 83)
    obtain ⟨W2, hW2⟩ : ∃ W2, W2 = W1.drew.alloc (.cells ZL.toArray 83) := ⟨_, rfl⟩
    rw [show (W1.alloc (.cells ZL.toArray 83)).drew = W2 by rw [hW2]; rfl]
    rw [← hW2] at hN2 gN2
    clear hW2
    refine wpAnyH_ready (rs := [11]) (by kernel_rfl) (by simp) ?_
    refine AllReadyH.cons (o := { dst := none, op := Op.store 83 (Operand.tmp 8) (Operand.tmp 18), type := _, pos := _, after := _, guard := _ }) rfl (fun K9 hK9 => ?_) AllReadyH.nil
    rw [if_pos (by rfl)]
    refine wp_store_row _ _ _ rfl W1.heap.size _ rfl rfl _ _ hN2 (by rw [unhide HSC]; exact info_cont) (by rw [unhide HSC, unhide HSZ]) (unhide HOC) ?_
    refine hK9.out _ _ (gb_row gN2 _ (Or.inl (Nat.le_refl _))) (fun _ => ?_)
    clear hK9 K9
    (try simp only [Act.put])
    refine wpAnyH_take (i := 12) (oi := { dst := some 9, op := Op.assign (Operand.tmp 19), type := _, pos := _, after := _, guard := _ }) (v := .bool false) rfl (by kernel_rfl) (by kernel_rfl) (by kernel_rfl) (fun _ _ _ h => h) (Or.inl ⟨by rfl, fun V (hV : W1.grownBy V none) => by go_simp⟩) (gb_row gN2 _ (Or.inl (Nat.le_refl _))) ?_
    (try simp only [Act.put, List.setIfInBounds_toArray, List.set_cons_zero, List.set_cons_succ])
    refine wpAnyH_done (by kernel_rfl) ?_ _
    refine NoPanic.normal ?_
    go_upto_region 2 with fail
    refine region_named fun O hO => ?_
    refine wpList_val (by rw [hO]; kernel_rfl) (.bool false) (fun K9 hK9 => by go_simp; exact hK9) ?_
    (try simp only [Act.put, List.setIfInBounds_toArray, List.set_cons_zero, List.set_cons_succ])
    refine wpList_val (by rw [hO]; kernel_rfl) (.bool true) (fun K9 hK9 => by go_simp; exact hK9) ?_
    (try simp only [Act.put, List.setIfInBounds_toArray, List.set_cons_zero, List.set_cons_succ])
    refine wpList_val (by rw [hO]; kernel_rfl) (.bool true) (fun K9 hK9 => by go_simp; exact hK9) ?_
    (try simp only [Act.put, List.setIfInBounds_toArray, List.set_cons_zero, List.set_cons_succ])
    refine wpList_skip (by rw [hO]; kernel_rfl) ?_
    (try simp only [Act.put, List.setIfInBounds_toArray, List.set_cons_zero, List.set_cons_succ])
    refine wpList_skip (by rw [hO]; kernel_rfl) ?_
    (try simp only [Act.put, List.setIfInBounds_toArray, List.set_cons_zero, List.set_cons_succ])
    refine wpList_skip (by rw [hO]; kernel_rfl) ?_
    (try simp only [Act.put, List.setIfInBounds_toArray, List.set_cons_zero, List.set_cons_succ])
    refine wpList_skip (by rw [hO]; kernel_rfl) ?_
    (try simp only [Act.put, List.setIfInBounds_toArray, List.set_cons_zero, List.set_cons_succ])
    refine wpList_val (by rw [hO]; kernel_rfl) (.bool true) (fun K9 hK9 => by go_simp; exact hK9) ?_
    (try simp only [Act.put, List.setIfInBounds_toArray, List.set_cons_zero, List.set_cons_succ])
    go_wp2
    go_ret2
    exact ⟨none, 0, rfl, ⟨Bts.nil _, fun _ e => by cases e⟩, tn (unhide HG1) (gb_row gN2 _ (Or.inl (Nat.le_refl _)))⟩
  | true =>
    obtain ⟨hyk, hyt⟩ := hyk rfl
    have hsp := cont_split y hyk
    rw [← hCL] at hsp
    obtain ⟨YL, hYL⟩ : ∃ YL, YL = ownC y.k y.be := ⟨_, rfl⟩
    have hsY : YL.length = 33 := by rw [hYL]; exact ownC_length _ _ hyk
    have hiY : (Tryd.prog.info? 81).map (·.size) = some YL.length := by rw [hsY]; exact info_own
    have hiO : (Tryd.prog.info? 81).map (·.size) = some OL.length := by rw [hsO]; exact info_own
    have hne : W1.heap.size ≠ w.heap.size := by rw [hW1, World.size_alloc]; omega
    have hrg : ∀ V, Blk V W1.heap.size 83 CL → V.rangeAt W1.heap.size 0 YL := fun V hV => by
      have := Blk.range (A := []) (vs := YL) (C := [.string (str y.tx)]) (w := V) (b := W1.heap.size) (t := 83) (by rw [hsp, ← hYL] at hV; simpa using hV)
      simpa using this
    have hro : ∀ V, Blk V w.heap.size 81 OL → V.rangeAt w.heap.size 0 OL := fun V hV => by
      have := Blk.range (A := []) (vs := OL) (C := []) (w := V) (b := w.heap.size) (t := 81) (by simpa using hV)
      simpa using this
    have hct : ∀ V, Blk V W1.heap.size 83 CL → V.cell? ⟨W1.heap.size, 33, none⟩ = some (.string (str y.tx)) := fun V hV => by
      rw [hV.cell, hsp, ← hYL, List.getElem?_append_right (by omega), hsY]; rfl
    by_cases hsame : k = y.k ∧ be = y.be
    · have hq : ∀ V : World, (binOp .neq 81 (.agg YL.toArray) (.agg OL.toArray)).run Tryd.prog V = .ok (.bool false) V := fun V => by
        rw [hYL, hOL, neq_own V _ _ _ _ hyk hk, hsame.1, hsame.2]; simp
      rw [if_pos ⟨rfl, hsame⟩] at hopn
      rw [hopn]
      obtain ⟨st, hst⟩ : ∃ st, st = str y.tx := ⟨_, rfl⟩
      rw [← hst] at hct
      have hfin : ∀ V, w.grownBy V none → ∃ cap V', (convert 9 22 (.string st)).run Tryd.prog V = .ok (.slice (some ⟨V.heap.size, 0, none⟩) y.tx.length cap) V' ∧ BtT V' (some ⟨V.heap.size, 0, none⟩) cap y.tx ∧ w.grownBy V' none := fun V hV => by
        obtain ⟨cap, V', q1, q2, q3, q4⟩ := str_typ V y.tx (by unfold maxLen; omega)
        exact ⟨cap, V', by rw [hst]; exact q1, ⟨q2, fun ad e => by cases e; exact q3⟩, tn hV q4⟩
      have HRG := hide hrg
      have HRO := hide hro
      have HCT := hide hct
      have HQ := hide hq
      have HNE := hide hne
      have HFIN := hide hfin
      clear hsx hr9 hy hCL hZL hyk hsC hsZ hoC hn h hs hk hopn hyk2 h1 hO1 g1 hW1 hOL hsO hok htx hm hrg hro hct hq hne hsp hYL hsY hsame hst hfin hyt
      go_enter Tryd.func33, Tryd.ntmps33
      go_upto_region 1 with fail
      rw [← unhide HW1]
      refine wp_region_noPanic ?_
      refine wp_region_held_drew (S := fun V => W1.grownBy V none) (by kernel_rfl) h0 (fun _ => ?_)
      refine wpAnyH_take (i := 0) (oi := { dst := some 11, op := Op.move (Operand.tmp 0), type := _, pos := _, after := _, guard := _ }) (v := .pointer (some ⟨bb, 0, none⟩)) rfl (by kernel_rfl) (by kernel_rfl) (by kernel_rfl) (fun _ _ _ h => h) (Or.inl ⟨by rfl, fun V (hV : W1.grownBy V none) => by go_simp⟩) h0 ?_
      (try simp only [Act.put, List.setIfInBounds_toArray, List.set_cons_zero, List.set_cons_succ])
      refine wpAnyH_take (i := 1) (oi := { dst := some 12, op := Op.nilCheck (Operand.tmp 11), type := _, pos := _, after := _, guard := _ }) (v := .pointer (some ⟨bb, 0, none⟩)) rfl (by kernel_rfl) (by kernel_rfl) (by kernel_rfl) (fun _ _ _ h => h) (Or.inl ⟨by rfl, fun V (hV : W1.grownBy V none) => by go_simp⟩) h0 ?_
      (try simp only [Act.put, List.setIfInBounds_toArray, List.set_cons_zero, List.set_cons_succ])
      refine wpAnyH_take (i := 2) (oi := { dst := some 13, op := Op.fieldAddr 58 (Operand.tmp 12) 2, type := _, pos := _, after := _, guard := _ }) (v := .pointer (some ⟨bb, 2, none⟩)) rfl (by kernel_rfl) (by kernel_rfl) (by kernel_rfl) (fun _ _ _ h => h) (Or.inl ⟨by rfl, fun V (hV : W1.grownBy V none) => by go_simp⟩) h0 ?_
      (try simp only [Act.put, List.setIfInBounds_toArray, List.set_cons_zero, List.set_cons_succ])
      refine wpAnyH_take (i := 3) (oi := { dst := some 14, op := Op.load 56 (Operand.tmp 13), type := _, pos := _, after := _, guard := _ }) (v := .map (some bm)) rfl (by kernel_rfl) (by kernel_rfl) (by kernel_rfl) (fun _ _ _ h => h) (Or.inl ⟨by rfl, fun V (hV : W1.grownBy V none) => by (have hv1 := hV.cell hc2 (by simp); go_simp)⟩) h0 ?_
      (try simp only [Act.put, List.setIfInBounds_toArray, List.set_cons_zero, List.set_cons_succ])
      refine wpAnyH_take (i := 4) (oi := { dst := some 15, op := Op.move (Operand.tmp 2), type := _, pos := _, after := _, guard := _ }) (v := .slice ao n c) rfl (by kernel_rfl) (by kernel_rfl) (by kernel_rfl) (fun _ _ _ h => h) (Or.inl ⟨by rfl, fun V (hV : W1.grownBy V none) => by go_simp⟩) h0 ?_
      (try simp only [Act.put, List.setIfInBounds_toArray, List.set_cons_zero, List.set_cons_succ])
      refine wpAnyH_take (i := 5) (oi := { dst := some 16, op := Op.convert 22 9 (Operand.tmp 15), type := _, pos := _, after := _, guard := _ }) (v := .string sx) rfl (by kernel_rfl) (by kernel_rfl) (by kernel_rfl) (fun _ _ _ h => h) (Or.inl ⟨by rfl, fun V (hV : W1.grownBy V none) => by (have hv9 := hcv V hV; go_simp)⟩) h0 ?_
      (try simp only [Act.put, List.setIfInBounds_toArray, List.set_cons_zero, List.set_cons_succ])
      refine wpAnyH_take (i := 6) (oi := { dst := some 17, op := Op.lookup 56 (Operand.tmp 14) (Operand.tmp 16) true, type := _, pos := _, after := _, guard := _ }) (v := .tuple #[.agg CL.toArray, .bool true]) rfl (by kernel_rfl) (by kernel_rfl) (by kernel_rfl) (fun _ _ _ h => h) (Or.inl ⟨by rfl, fun V (hV : W1.grownBy V none) => by (have hv9 := hlk V hV; go_simp)⟩) h0 ?_
      (try simp only [Act.put, List.setIfInBounds_toArray, List.set_cons_zero, List.set_cons_succ])
      refine wpAnyH_take (i := 7) (oi := { dst := some 10, op := Op.move (Operand.tmp 17), type := _, pos := _, after := _, guard := _ }) (v := .tuple #[.agg CL.toArray, .bool true]) rfl (by kernel_rfl) (by kernel_rfl) (by kernel_rfl) (fun _ _ _ h => h) (Or.inl ⟨by rfl, fun V (hV : W1.grownBy V none) => by go_simp⟩) h0 ?_
      (try simp only [Act.put, List.setIfInBounds_toArray, List.set_cons_zero, List.set_cons_succ])
      refine wpAnyH_take (i := 8) (oi := { dst := some 18, op := Op.extract (Operand.tmp 10) 0, type := _, pos := _, after := _, guard := _ }) (v := .agg CL.toArray) rfl (by kernel_rfl) (by kernel_rfl) (by kernel_rfl) (fun _ _ _ h => h) (Or.inl ⟨by rfl, fun V (hV : W1.grownBy V none) => by go_simp⟩) h0 ?_
      (try simp only [Act.put, List.setIfInBounds_toArray, List.set_cons_zero, List.set_cons_succ])
      refine wpAnyH_take (i := 9) (oi := { dst := some 19, op := Op.extract (Operand.tmp 10) 1, type := _, pos := _, after := _, guard := _ }) (v := .bool true) rfl (by kernel_rfl) (by kernel_rfl) (by kernel_rfl) (fun _ _ _ h => h) (Or.inl ⟨by rfl, fun V (hV : W1.grownBy V none) => by go_simp⟩) h0 ?_
      (try simp only [Act.put, List.setIfInBounds_toArray, List.set_cons_zero, List.set_cons_succ])
      refine wpAnyH_ready (rs := [10]) (by kernel_rfl) (by simp) ?_
      refine AllReadyH.cons (o := { dst := some 8, op := Op.alloc 83, type := _, pos := _, after := _, guard := _ }) rfl (fun K9 hK9 => ?_) AllReadyH.nil
      go_simp
      refine hK9.out _ _ (gb_alloc h0 _) (fun _ => ?_)
      clear hK9 K9
      (try simp only [Act.put, List.setIfInBounds_toArray, List.set_cons_zero, List.set_cons_succ])
      have hN2 : Blk (W1.drew.alloc (.cells ZL.toArray 83)) W1.heap.size 83 ZL := Blk.new W1.drew _ ZL
      have gN2 := gb_alloc h0 (.cells ZL.toArray 83)
      obtain ⟨W2, hW2⟩ : ∃ W2, W2 = W1.drew.alloc (.cells ZL.toArray 83) := ⟨_, rfl⟩
      rw [show (W1.alloc (.cells ZL.toArray 83)).drew = W2 by rw [hW2]; rfl]
      rw [← hW2] at hN2 gN2
      clear hW2
      refine wpAnyH_ready (rs := [11]) (by kernel_rfl) (by simp) ?_
      refine AllReadyH.cons (o := { dst := none, op := Op.store 83 (Operand.tmp 8) (Operand.tmp 18), type := _, pos := _, after := _, guard := _ }) rfl (fun K9 hK9 => ?_) AllReadyH.nil
      rw [if_pos (by rfl)]
      refine wp_store_row _ _ _ rfl W1.heap.size _ rfl rfl _ _ hN2 (by rw [unhide HSC]; exact info_cont) (by rw [unhide HSC, unhide HSZ]) (unhide HOC) ?_
      refine hK9.out _ _ (gb_row gN2 _ (Or.inl (Nat.le_refl _))) (fun _ => ?_)
      clear hK9 K9
      (try simp only [Act.put])
      refine wpAnyH_take (i := 12) (oi := { dst := some 9, op := Op.assign (Operand.tmp 19), type := _, pos := _, after := _, guard := _ }) (v := .bool true) rfl (by kernel_rfl) (by kernel_rfl) (by kernel_rfl) (fun _ _ _ h => h) (Or.inl ⟨by rfl, fun V (hV : W1.grownBy V none) => by go_simp⟩) (gb_row gN2 _ (Or.inl (Nat.le_refl _))) ?_
      (try simp only [Act.put, List.setIfInBounds_toArray, List.set_cons_zero, List.set_cons_succ])
      refine wpAnyH_done (by kernel_rfl) ?_ _
      refine NoPanic.normal ?_
      have hC3 := hN2.row CL
      have hO3 := ((unhide HO1).kept gN2 (by simp)).row_other W1.heap.size CL.toArray (unhide HNE)
      have G3 := tn (unhide HG1) (gb_row gN2 CL.toArray (Or.inl (Nat.le_refl _)))
      obtain ⟨W3, hW3⟩ : ∃ W3, W3 = W2.setRow W1.heap.size CL.toArray := ⟨_, rfl⟩
      rw [← hW3] at hC3 hO3 G3 ⊢
      clear hW3 hN2 gN2
      go_upto_region 2 with fail
      refine region_named fun O hO => ?_
      refine wpList_val (by rw [hO]; kernel_rfl) (.bool true) (fun K9 hK9 => by go_simp; exact hK9) ?_
      (try simp only [Act.put, List.setIfInBounds_toArray, List.set_cons_zero, List.set_cons_succ])
      refine wpList_val (by rw [hO]; kernel_rfl) (.bool false) (fun K9 hK9 => by go_simp; exact hK9) ?_
      (try simp only [Act.put, List.setIfInBounds_toArray, List.set_cons_zero, List.set_cons_succ])
      refine wpList_val (by rw [hO]; kernel_rfl) (.bool false) (fun K9 hK9 => by go_simp; exact hK9) ?_
      (try simp only [Act.put, List.setIfInBounds_toArray, List.set_cons_zero, List.set_cons_succ])
      refine wpList_val (by rw [hO]; kernel_rfl) (.pointer (some ⟨W1.heap.size, 0, none⟩)) (fun K9 hK9 => by go_simp; exact hK9) ?_
      (try simp only [Act.put, List.setIfInBounds_toArray, List.set_cons_zero, List.set_cons_succ])
      refine wpList_val (by rw [hO]; kernel_rfl) (.agg YL.toArray) (fun K9 hK9 => wp_load_mid _ _ rfl W1.heap.size 0 rfl YL _ (unhide HRG W3 hC3) Tryd.underlying81 rfl hiY hK9) ?_
      (try simp only [Act.put, List.setIfInBounds_toArray, List.set_cons_zero, List.set_cons_succ])
      refine wpList_val (by rw [hO]; kernel_rfl) (.agg OL.toArray) (fun K9 hK9 => wp_load_mid _ _ rfl w.heap.size 0 rfl OL _ (unhide HRO W3 hO3) Tryd.underlying81 rfl hiO hK9) ?_
      (try simp only [Act.put, List.setIfInBounds_toArray, List.set_cons_zero, List.set_cons_succ])
      refine wpList_val (by rw [hO]; kernel_rfl) (.bool false) (fun K9 hK9 => wp_neq _ _ _ _ rfl _ _ _ rfl rfl guard_own (unhide HQ W3) hK9) ?_
      (try simp only [Act.put, List.setIfInBounds_toArray, List.set_cons_zero, List.set_cons_succ])
      refine wpList_val (by rw [hO]; kernel_rfl) (.bool false) (fun K9 hK9 => by go_simp; exact hK9) ?_
      (try simp only [Act.put, List.setIfInBounds_toArray, List.set_cons_zero, List.set_cons_succ])
      have hc9 := unhide HCT W3 hC3
      obtain ⟨cap, V', q1, q2, q3⟩ := unhide HFIN W3 G3
      clear HRG HRO HCT HQ HFIN hC3 hO3
      go_wp2
      go_ret2
      exact ⟨_, _, rfl, q2, q3⟩
    · have hq : ∀ V : World, (binOp .neq 81 (.agg YL.toArray) (.agg OL.toArray)).run Tryd.prog V = .ok (.bool true) V := fun V => by
        rw [hYL, hOL, neq_own V _ _ _ _ hyk hk]
        have : (y.k == k && y.be == be) = false := by
          rw [Bool.eq_false_iff]
          intro e
          rw [Bool.and_eq_true, beq_iff_eq, beq_iff_eq] at e
          exact hsame ⟨e.1.symm, e.2.symm⟩
        rw [this]; rfl
      rw [if_neg (fun e => hsame e.2)] at hopn
      rw [hopn]
      have HRG := hide hrg
      have HRO := hide hro
      have HQ := hide hq
      have HNE := hide hne
      clear hsx hr9 hy hCL hZL hyk hsC hsZ hoC hn h hs hk hopn hyk2 h1 hO1 g1 hW1 hOL hsO hok htx hm hrg hro hct hq hne hsp hYL hsY hsame hyt
      go_enter Tryd.func33, Tryd.ntmps33
      go_upto_region 1 with fail
      rw [← unhide HW1]
      refine wp_region_noPanic ?_
      refine wp_region_held_drew (S := fun V => W1.grownBy V none) (by kernel_rfl) h0 (fun _ => ?_)
      refine wpAnyH_take (i := 0) (oi := { dst := some 11, op := Op.move (Operand.tmp 0), type := _, pos := _, after := _, guard := _ }) (v := .pointer (some ⟨bb, 0, none⟩)) rfl (by kernel_rfl) (by kernel_rfl) (by kernel_rfl) (fun _ _ _ h => h) (Or.inl ⟨by rfl, fun V (hV : W1.grownBy V none) => by go_simp⟩) h0 ?_
      (try simp only [Act.put, List.setIfInBounds_toArray, List.set_cons_zero, List.set_cons_succ])
      refine wpAnyH_take (i := 1) (oi := { dst := some 12, op := Op.nilCheck (Operand.tmp 11), type := _, pos := _, after := _, guard := _ }) (v := .pointer (some ⟨bb, 0, none⟩)) rfl (by kernel_rfl) (by kernel_rfl) (by kernel_rfl) (fun _ _ _ h => h) (Or.inl ⟨by rfl, fun V (hV : W1.grownBy V none) => by go_simp⟩) h0 ?_
      (try simp only [Act.put, List.setIfInBounds_toArray, List.set_cons_zero, List.set_cons_succ])
      refine wpAnyH_take (i := 2) (oi := { dst := some 13, op := Op.fieldAddr 58 (Operand.tmp 12) 2, type := _, pos := _, after := _, guard := _ }) (v := .pointer (some ⟨bb, 2, none⟩)) rfl (by kernel_rfl) (by kernel_rfl) (by kernel_rfl) (fun _ _ _ h => h) (Or.inl ⟨by rfl, fun V (hV : W1.grownBy V none) => by go_simp⟩) h0 ?_
      (try simp only [Act.put, List.setIfInBounds_toArray, List.set_cons_zero, List.set_cons_succ])
      refine wpAnyH_take (i := 3) (oi := { dst := some 14, op := Op.load 56 (Operand.tmp 13), type := _, pos := _, after := _, guard := _ }) (v := .map (some bm)) rfl (by kernel_rfl) (by kernel_rfl) (by kernel_rfl) (fun _ _ _ h => h) (Or.inl ⟨by rfl, fun V (hV : W1.grownBy V none) => by (have hv1 := hV.cell hc2 (by simp); go_simp)⟩) h0 ?_
      (try simp only [Act.put, List.setIfInBounds_toArray, List.set_cons_zero, List.set_cons_succ])
      refine wpAnyH_take (i := 4) (oi := { dst := some 15, op := Op.move (Operand.tmp 2), type := _, pos := _, after := _, guard := _ }) (v := .slice ao n c) rfl (by kernel_rfl) (by kernel_rfl) (by kernel_rfl) (fun _ _ _ h => h) (Or.inl ⟨by rfl, fun V (hV : W1.grownBy V none) => by go_simp⟩) h0 ?_
      (try simp only [Act.put, List.setIfInBounds_toArray, List.set_cons_zero, List.set_cons_succ])
      refine wpAnyH_take (i := 5) (oi := { dst := some 16, op := Op.convert 22 9 (Operand.tmp 15), type := _, pos := _, after := _, guard := _ }) (v := .string sx) rfl (by kernel_rfl) (by kernel_rfl) (by kernel_rfl) (fun _ _ _ h => h) (Or.inl ⟨by rfl, fun V (hV : W1.grownBy V none) => by (have hv9 := hcv V hV; go_simp)⟩) h0 ?_
      (try simp only [Act.put, List.setIfInBounds_toArray, List.set_cons_zero, List.set_cons_succ])
      refine wpAnyH_take (i := 6) (oi := { dst := some 17, op := Op.lookup 56 (Operand.tmp 14) (Operand.tmp 16) true, type := _, pos := _, after := _, guard := _ }) (v := .tuple #[.agg CL.toArray, .bool true]) rfl (by kernel_rfl) (by kernel_rfl) (by kernel_rfl) (fun _ _ _ h => h) (Or.inl ⟨by rfl, fun V (hV : W1.grownBy V none) => by (have hv9 := hlk V hV; go_simp)⟩) h0 ?_
      (try simp only [Act.put, List.setIfInBounds_toArray, List.set_cons_zero, List.set_cons_succ])
      refine wpAnyH_take (i := 7) (oi := { dst := some 10, op := Op.move (Operand.tmp 17), type := _, pos := _, after := _, guard := _ }) (v := .tuple #[.agg CL.toArray, .bool true]) rfl (by kernel_rfl) (by kernel_rfl) (by kernel_rfl) (fun _ _ _ h => h) (Or.inl ⟨by rfl, fun V (hV : W1.grownBy V none) => by go_simp⟩) h0 ?_
      (try simp only [Act.put, List.setIfInBounds_toArray, List.set_cons_zero, List.set_cons_succ])
      refine wpAnyH_take (i := 8) (oi := { dst := some 18, op := Op.extract (Operand.tmp 10) 0, type := _, pos := _, after := _, guard := _ }) (v := .agg CL.toArray) rfl (by kernel_rfl) (by kernel_rfl) (by kernel_rfl) (fun _ _ _ h => h) (Or.inl ⟨by rfl, fun V (hV : W1.grownBy V none) => by go_simp⟩) h0 ?_
      (try simp only [Act.put, List.setIfInBounds_toArray, List.set_cons_zero, List.set_cons_succ])
      refine wpAnyH_take (i := 9) (oi := { dst := some 19, op := Op.extract (Operand.tmp 10) 1, type := _, pos := _, after := _, guard := _ }) (v := .bool true) rfl (by kernel_rfl) (by kernel_rfl) (by kernel_rfl) (fun _ _ _ h => h) (Or.inl ⟨by rfl, fun V (hV : W1.grownBy V none) => by go_simp⟩) h0 ?_
      (try simp only [Act.put, List.setIfInBounds_toArray, List.set_cons_zero, List.set_cons_succ])
      refine wpAnyH_ready (rs := [10]) (by kernel_rfl) (by simp) ?_
      refine AllReadyH.cons (o := { dst := some 8, op := Op.alloc 83, type := _, pos := _, after := _, guard := _ }) rfl (fun K9 hK9 => ?_) AllReadyH.nil
      go_simp
      refine hK9.out _ _ (gb_alloc h0 _) (fun _ => ?_)
      clear hK9 K9
      (try simp only [Act.put, List.setIfInBounds_toArray, List.set_cons_zero, List.set_cons_succ])
      have hN2 : Blk (W1.drew.alloc (.cells ZL.toArray 83)) W1.heap.size 83 ZL := Blk.new W1.drew _ ZL
      have gN2 := gb_alloc h0 (.cells ZL.toArray 83)
      obtain ⟨W2, hW2⟩ : ∃ W2, W2 = W1.drew.alloc (.cells ZL.toArray 83) := ⟨_, rfl⟩
      rw [show (W1.alloc (.cells ZL.toArray 83)).drew = W2 by rw [hW2]; rfl]
      rw [← hW2] at hN2 gN2
      clear hW2
      refine wpAnyH_ready (rs := [11]) (by kernel_rfl) (by simp) ?_
      refine AllReadyH.cons (o := { dst := none, op := Op.store 83 (Operand.tmp 8) (Operand.tmp 18), type := _, pos := _, after := _, guard := _ }) rfl (fun K9 hK9 => ?_) AllReadyH.nil
      rw [if_pos (by rfl)]
      refine wp_store_row _ _ _ rfl W1.heap.size _ rfl rfl _ _ hN2 (by rw [unhide HSC]; exact info_cont) (by rw [unhide HSC, unhide HSZ]) (unhide HOC) ?_
      refine hK9.out _ _ (gb_row gN2 _ (Or.inl (Nat.le_refl _))) (fun _ => ?_)
      clear hK9 K9
      (try simp only [Act.put])
      refine wpAnyH_take (i := 12) (oi := { dst := some 9, op := Op.assign (Operand.tmp 19), type := _, pos := _, after := _, guard := _ }) (v := .bool true) rfl (by kernel_rfl) (by kernel_rfl) (by kernel_rfl) (fun _ _ _ h => h) (Or.inl ⟨by rfl, fun V (hV : W1.grownBy V none) => by go_simp⟩) (gb_row gN2 _ (Or.inl (Nat.le_refl _))) ?_
      (try simp only [Act.put, List.setIfInBounds_toArray, List.set_cons_zero, List.set_cons_succ])
      refine wpAnyH_done (by kernel_rfl) ?_ _
      refine NoPanic.normal ?_
      have hC3 := hN2.row CL
      have hO3 := ((unhide HO1).kept gN2 (by simp)).row_other W1.heap.size CL.toArray (unhide HNE)
      have G3 := tn (unhide HG1) (gb_row gN2 CL.toArray (Or.inl (Nat.le_refl _)))
      obtain ⟨W3, hW3⟩ : ∃ W3, W3 = W2.setRow W1.heap.size CL.toArray := ⟨_, rfl⟩
      rw [← hW3] at hC3 hO3 G3 ⊢
      clear hW3 hN2 gN2
      go_upto_region 2 with fail
      refine region_named fun O hO => ?_
      refine wpList_val (by rw [hO]; kernel_rfl) (.bool true) (fun K9 hK9 => by go_simp; exact hK9) ?_
      (try simp only [Act.put, List.setIfInBounds_toArray, List.set_cons_zero, List.set_cons_succ])
      refine wpList_val (by rw [hO]; kernel_rfl) (.bool false) (fun K9 hK9 => by go_simp; exact hK9) ?_
      (try simp only [Act.put, List.setIfInBounds_toArray, List.set_cons_zero, List.set_cons_succ])
      refine wpList_val (by rw [hO]; kernel_rfl) (.bool false) (fun K9 hK9 => by go_simp; exact hK9) ?_
      (try simp only [Act.put, List.setIfInBounds_toArray, List.set_cons_zero, List.set_cons_succ])
      refine wpList_val (by rw [hO]; kernel_rfl) (.pointer (some ⟨W1.heap.size, 0, none⟩)) (fun K9 hK9 => by go_simp; exact hK9) ?_
      (try simp only [Act.put, List.setIfInBounds_toArray, List.set_cons_zero, List.set_cons_succ])
      refine wpList_val (by rw [hO]; kernel_rfl) (.agg YL.toArray) (fun K9 hK9 => wp_load_mid _ _ rfl W1.heap.size 0 rfl YL _ (unhide HRG W3 hC3) Tryd.underlying81 rfl hiY hK9) ?_
      (try simp only [Act.put, List.setIfInBounds_toArray, List.set_cons_zero, List.set_cons_succ])
      refine wpList_val (by rw [hO]; kernel_rfl) (.agg OL.toArray) (fun K9 hK9 => wp_load_mid _ _ rfl w.heap.size 0 rfl OL _ (unhide HRO W3 hO3) Tryd.underlying81 rfl hiO hK9) ?_
      (try simp only [Act.put, List.setIfInBounds_toArray, List.set_cons_zero, List.set_cons_succ])
      refine wpList_val (by rw [hO]; kernel_rfl) (.bool true) (fun K9 hK9 => wp_neq _ _ _ _ rfl _ _ _ rfl rfl guard_own (unhide HQ W3) hK9) ?_
      (try simp only [Act.put, List.setIfInBounds_toArray, List.set_cons_zero, List.set_cons_succ])
      refine wpList_val (by rw [hO]; kernel_rfl) (.bool true) (fun K9 hK9 => by go_simp; exact hK9) ?_
      (try simp only [Act.put, List.setIfInBounds_toArray, List.set_cons_zero, List.set_cons_succ])
      clear HRG HRO HQ hC3 hO3
      go_wp2
      go_ret2
      exact ⟨none, 0, rfl, ⟨Bts.nil _, fun _ e => by cases e⟩, G3⟩

end Go.Proofs.YtjckdgapefaokaaDoor
