/- What graph's Put answers of what may not be, and of no set; what Get and Drop answer. Of any set, of nil and of a plain one. -/
import Derived.Test.YtlifmipnoeioaaaGreatDoorGPutA
import Derived.Test.YtlifmipnoeioaaaGreatDoorOLink
import GoSem.Extern.MapsClone
namespace Go.Proofs.YtlifmipnoeioaaaGreatDoor
open Go.RowKit

def zero32 : List UInt8 := List.replicate 32 0
theorem zid_run (w : World) : (zeroValue 33).run Tryz.prog w = .ok (keyV zero32) w := by kernel_rfl
theorem zid_built : Tryz.prog.built 33 [] = some (zero32.map bv).toArray := by kernel_rfl

set_option maxRecDepth 100000 in
set_option maxHeartbeats 2000000 in
theorem gput_bad (u w : World) (sb mb : Nat) (S : List ObE) (h : SetAt u w sb mb S) (k : Int) (ao : Option Addr) (c : Nat) (d : List UInt8) (hd : Bts w ao c d) (hc : checkL k d ≠ 0) :
    Calls Tryz.prog 32 #[.pointer (some ⟨sb, 0, none⟩), .agg #[.int .i64 k, .slice ao d.length c]] w fun e w' => e = .returned (.tuple #[keyV zero32, .int .i64 (checkL k d)]) ∧ w.grownBy w' none := by
  obtain ⟨n, hn⟩ : ∃ n, n = d.length := ⟨_, rfl⟩
  obtain ⟨ZB, hZB⟩ : ∃ ZB, ZB = zero32.map bv := ⟨_, rfl⟩
  have hzv : ∀ w, (zeroValue 33).run Tryz.prog w = .ok (.agg ZB.toArray) w := fun w => by rw [hZB]; exact zid_run w
  have hzb : Tryz.prog.built 33 [] = some ZB.toArray := by rw [hZB]; exact zid_built
  have hiZ : (Tryz.prog.info? 33).map (·.size) = some ZB.toArray.size := by rw [hZB]; exact info_id
  have hZo : ZB.toArray.all (·.oneCell') = true := by rw [hZB]; exact all_oneCell_toArray (bv_one _)
  obtain ⟨W0, hW0, hB0, g0⟩ : ∃ W, W = w.alloc (.cells #[.int .i64 k, .slice ao n c] 42) ∧ Blk W w.heap.size 42 [.int .i64 k, .slice ao n c] ∧ w.grownBy W none := box_new w _ _
  obtain ⟨W1, hW1, hB1, g1⟩ := box_new W0 33 ZB
  have hs0 : W0.heap.size = w.heap.size + 1 := by rw [hW0]; simp
  rw [hs0] at hB1
  have G1 := tn g0 g1
  have hBo := hB0.kept g1 (by simp)
  have hr1 := blk_all hBo
  have hW : W1 = (w.alloc (.cells #[.int .i64 k, .slice ao n c] 42)).alloc (.cells ZB.toArray 33) := by rw [hW1, hW0]
  have h1 := h.none G1
  have c1 := made_any W1 sb mb h1.cell
  have ck := check_any W1 k ao c d (hd.kept G1 (fun _ e => by cases e))
  rw [← hn] at ck
  rw [← hn]
  obtain ⟨y, hy⟩ : ∃ y, y = checkL k d := ⟨_, rfl⟩
  rw [← hy] at ck hc ⊢
  have hy0 : (y != 0) = true := by simpa using hc
  rw [show keyV zero32 = .agg ZB.toArray by rw [hZB]; rfl]
  have HW := hide hW
  have HIZ := hide hiZ
  have HZO := hide hZo
  have HZB := hide hzb
  have HB1 := hide hB1
  clear hW hW1 hW0 hB0 hB1 g0 g1 hs0 hiZ hZo hzb hn hBo h1 h hZB hy hc hd
  go_enter Tryz.func32, Tryz.ntmps32
  go_wp2_with (first
    | (go_at_call 36; refine c1.mono ?_; rintro e w2 ⟨rfl, e2⟩; subst w2; clear c1)
    | (refine wpList_load_mid rfl 42 _ rfl w.heap.size 0 rfl [Value.int IntKind.i64 k, Value.slice ao n c] _ hr1 Tryz.underlying42 rfl info_obj ?_; clear hr1)
    | rw [← unhide HW])
  refine ck.mono ?_
  rintro e w2 ⟨rfl, g2⟩
  have hB5 := (unhide HB1).kept g2 (by simp)
  clear ck
  go_wp2_with (first
    | (refine wpList_built rfl 33 _ rfl ZB.toArray ?hbs ?_)
    | (refine wpList_store_row rfl 33 _ _ rfl (w.heap.size + 1) ZB.toArray rfl rfl _ _ hB5 (unhide HIZ) rfl (unhide HZO) ?_))
  case hbs => simpa using unhide HZB
  refine bodyPost_ret (results_row_tmp rfl _ _ _ _ _ _ _ rfl (hB5.row ZB) Tryz.underlying33 rfl (unhide HIZ)) rfl ?_
  exact ⟨rfl, gb_row (tn G1 g2) _ (Or.inl (Nat.le_succ _))⟩

set_option maxRecDepth 100000 in
set_option maxHeartbeats 2000000 in
theorem gput_no (w : World) (po : Option Addr) (h : NoSet w po) (k : Int) (v : Value) :
    Calls Tryz.prog 32 #[.pointer po, .agg #[.int .i64 k, v]] w fun e w' => e = .returned (.tuple #[keyV zero32, .int .i64 1]) ∧ w.grownBy w' none := by
  obtain ⟨ZB, hZB⟩ : ∃ ZB, ZB = zero32.map bv := ⟨_, rfl⟩
  have hzv : ∀ w, (zeroValue 33).run Tryz.prog w = .ok (.agg ZB.toArray) w := fun w => by rw [hZB]; exact zid_run w
  have hzb : Tryz.prog.built 33 [] = some ZB.toArray := by rw [hZB]; exact zid_built
  have hiZ : (Tryz.prog.info? 33).map (·.size) = some ZB.toArray.size := by rw [hZB]; exact info_id
  have hZo : ZB.toArray.all (·.oneCell') = true := by rw [hZB]; exact all_oneCell_toArray (bv_one _)
  obtain ⟨W0, hW0, hB0, g0⟩ : ∃ W, W = w.alloc (.cells #[.int .i64 k, v] 42) ∧ Blk W w.heap.size 42 [.int .i64 k, v] ∧ w.grownBy W none := box_new w _ _
  obtain ⟨W1, hW1, hB1, g1⟩ := box_new W0 33 ZB
  have hs0 : W0.heap.size = w.heap.size + 1 := by rw [hW0]; simp
  rw [hs0] at hB1
  have G1 := tn g0 g1
  have hW : W1 = (w.alloc (.cells #[.int .i64 k, v] 42)).alloc (.cells ZB.toArray 33) := by rw [hW1, hW0]
  have c1 := h W1 G1
  rw [show keyV zero32 = .agg ZB.toArray by rw [hZB]; rfl]
  have HW := hide hW
  have HIZ := hide hiZ
  have HZO := hide hZo
  have HZB := hide hzb
  have HB1 := hide hB1
  clear hW hW1 hW0 hB0 hB1 g0 g1 hs0 hiZ hZo hzb h hZB
  go_enter Tryz.func32, Tryz.ntmps32
  go_wp2_with (first
    | (go_at_call 36; refine c1.mono ?_; rintro e w2 ⟨rfl, e2⟩; subst w2; clear c1)
    | (refine wpList_built rfl 33 _ rfl ZB.toArray ?hbs ?_)
    | (have hB9 := unhide HB1; refine wpList_store_row rfl 33 _ _ rfl (w.heap.size + 1) ZB.toArray rfl rfl _ _ hB9 (unhide HIZ) rfl (unhide HZO) ?_; clear hB9)
    | rw [← unhide HW])
  case hbs => simpa using unhide HZB
  refine bodyPost_ret (results_row_tmp rfl _ _ _ _ _ _ _ rfl ((unhide HB1).row ZB) Tryz.underlying33 rfl (unhide HIZ)) rfl ?_
  exact ⟨rfl, gb_row G1 _ (Or.inl (Nat.le_succ _))⟩

set_option maxRecDepth 100000 in
set_option maxHeartbeats 2000000 in
theorem gdrop_any (u w : World) (sb mb : Nat) (S : List ObE) (h : SetAt u w sb mb S) (x : List UInt8) (hx : x.length = 32) :
    Calls Tryz.prog 12 #[.pointer (some ⟨sb, 0, none⟩), keyV x] w fun e w' => e = .returned (.int .i64 (if hasS S x = true then 0 else 13)) ∧ SetAt u w' sb mb (dropS S x) ∧ w.grownBy w' (some mb) := by
  obtain ⟨KB, hKB⟩ : ∃ KB, KB = x.map bv := ⟨_, rfl⟩
  have hKl : KB.length = 32 := by rw [hKB]; simp [hx]
  have hkv : keyV x = .agg KB.toArray := by rw [hKB]; rfl
  obtain ⟨W1, hW1, hB1, g1⟩ := box_new w 33 KB
  have hr1 := blk_all hB1
  have hiK : (Tryz.prog.info? 33).map (·.size) = some KB.length := by rw [hKl]; exact info_id
  have h1 := h.none g1
  have cl := lacks_any u W1 sb mb S h1 x hx
  rw [hkv] at cl
  rw [hkv]
  have HW1 := hide hW1
  have HIK := hide hiK
  by_cases hh : hasS S x = true
  · rw [if_pos hh] at cl ⊢
    have HKV := hide hkv
    have HB1 := hide hB1
    clear hW1 hB1 hKB hKl hiK hh hkv
    go_enter Tryz.func12, Tryz.ntmps12
    go_upto_region 4 with (first
      | (rw [← unhide HW1]; refine wpList_load_mid rfl 33 _ rfl w.heap.size 0 rfl KB _ hr1 Tryz.underlying33 rfl (unhide HIK) ?_; clear hr1)
      | (go_at_call 38; refine cl.mono ?_; rintro e W2 ⟨rfl, g2⟩; clear cl))
    have hS2 := h1.none g2
    have hc := hS2.cell
    have hBK := (unhide HB1).kept g2 (by simp)
    have hrK := blk_all hBK
    have HNS : Hid (some sb ≠ some mb) := fun e => hS2.ne (by cases e; rfl)
    have HNK : Hid (some w.heap.size ≠ some mb) := fun e => by
      obtain ⟨R, m1, _⟩ := hS2.map
      exact m1.blk hBK (by cases e; rfl)
    obtain ⟨w3, hrun0, hS3, g3⟩ := (hS2.none (gb_drew (gb_refl W2 none))).delete x hx 0
    have hrun : ∀ U, (Builtin.delete_ #[76, 33] U #[.map (some mb), .agg KB.toArray]).run Tryz.prog W2.drew = .ok (.tuple #[]) w3 := fun U => by
      rw [← unhide HKV]; exact hrun0
    have hgd : W2.grownBy w3 (some mb) := gb_trans (gb_drew (gb_refl _ _)) g3 (fun _ e => Or.inr e)
    have h0 : W2.grownBy W2.drew (some mb) := gb_drew (gb_refl _ _)
    have HF : Hid (SetAt u w3 sb mb (dropS S x) ∧ w.grownBy w3 (some mb)) := ⟨hS3, gb_trans (gb_none _ (tn g1 g2)) hgd (fun _ e => Or.inr e)⟩
    clear hS2 hBK hrun0 hS3 g3 g2 g1 h1 h hx
    refine wp_region_noPanic ?_
    refine wp_region_held_drew (S := fun V => W2.grownBy V (some mb)) (by kernel_rfl) h0 (fun _ => ?_)
    refine wpAnyH_take (i := 0) (oi := ⟨some 12, .move (.tmp 0), _, _, _, _⟩) (v := .pointer (some ⟨sb, 0, none⟩)) rfl (by kernel_rfl) (by kernel_rfl) (by kernel_rfl) (fun _ _ _ h => h) (Or.inl ⟨by rfl, fun V (hV : W2.grownBy V (some mb)) => by go_simp⟩) h0 ?_
    (try simp only [Act.put, pq1, pq2, pq3])
    refine wpAnyH_take (i := 1) (oi := ⟨some 13, .nilCheck (.tmp 12), _, _, _, _⟩) (v := .pointer (some ⟨sb, 0, none⟩)) rfl (by kernel_rfl) (by kernel_rfl) (by kernel_rfl) (fun _ _ _ h => h) (Or.inl ⟨by rfl, fun V (hV : W2.grownBy V (some mb)) => by go_simp⟩) h0 ?_
    (try simp only [Act.put, pq1, pq2, pq3])
    refine wpAnyH_take (i := 2) (oi := ⟨some 14, .fieldAddr 78 (.tmp 13) 0, _, _, _, _⟩) (v := .pointer (some ⟨sb, 0, none⟩)) rfl (by kernel_rfl) (by kernel_rfl) (by kernel_rfl) (fun _ _ _ h => h) (Or.inl ⟨by rfl, fun V (hV : W2.grownBy V (some mb)) => by go_simp⟩) h0 ?_
    (try simp only [Act.put, pq1, pq2, pq3])
    refine wpAnyH_take (i := 3) (oi := ⟨some 15, .load 76 (.tmp 14), _, _, _, _⟩) (v := .map (some mb)) rfl (by kernel_rfl) (by kernel_rfl) (by kernel_rfl) (fun _ _ _ h => h) (Or.inl ⟨by rfl, fun V (hV : W2.grownBy V (some mb)) => by (have hv1 := hV.cell hc (unhide HNS); go_simp)⟩) h0 ?_
    (try simp only [Act.put, pq1, pq2, pq3])
    refine wpAnyH_take (i := 4) (oi := ⟨some 16, .load 33 (.tmp 3), _, _, _, _⟩) (v := .agg KB.toArray) rfl (by kernel_rfl) (by kernel_rfl) (by kernel_rfl) (fun _ _ _ h => h) (yieldsIf_load_mid (by rfl) _ _ rfl _ _ rfl KB _ (fun V hV => range_kept hrK hV (unhide HNK)) Tryz.underlying33 rfl (unhide HIK)) h0 ?_
    (try simp only [Act.put, pq1, pq2, pq3])
    refine wpAnyH_ready (rs := [5]) (by kernel_rfl) (by simp) ?_
    refine AllReadyH.cons (o := ⟨none, .call { callee := .builtin .delete, args := #[(.tmp 15), (.tmp 16)], argTypes := #[76, 33] }, _, _, _, _⟩) rfl (fun K9 hK9 => ?_) AllReadyH.nil
    go_simp
    refine hK9.out _ _ hgd (fun _ => ?_)
    clear hK9 K9
    (try simp only [Act.put, pq1, pq2, pq3])
    refine wpAnyH_done (by kernel_rfl) ?_ _
    refine NoPanic.normal ?_
    clear hrun
    go_wp2
    go_ret
    exact ⟨rfl, unhide HF⟩
  · have hn : x ∉ idsS S := fun hm => hh ((hasS_mem S x).2 hm)
    rw [if_neg hh] at cl ⊢
    rw [dropS_none hn]
    clear hW1 hB1 hKB hKl hiK hh hkv hn
    go_enter Tryz.func12, Tryz.ntmps12
    go_wp2_with (first
      | (rw [← unhide HW1]; refine wpList_load_mid rfl 33 _ rfl w.heap.size 0 rfl KB _ hr1 Tryz.underlying33 rfl (unhide HIK) ?_; clear hr1)
      | (go_at_call 38; refine cl.mono ?_; rintro e W2 ⟨rfl, g2⟩; clear cl))
    go_ret
    exact ⟨rfl, h1.none g2, gb_none _ (tn g1 g2)⟩

set_option maxRecDepth 100000 in
theorem gdrop_no (w : World) (po : Option Addr) (h : NoSet w po) (x : List UInt8) (hx : x.length = 32) :
    Calls Tryz.prog 12 #[.pointer po, keyV x] w fun e w' => e = .returned (.int .i64 1) ∧ w.grownBy w' none := by
  obtain ⟨KB, hKB⟩ : ∃ KB, KB = x.map bv := ⟨_, rfl⟩
  have hKl : KB.length = 32 := by rw [hKB]; simp [hx]
  have hkv : keyV x = .agg KB.toArray := by rw [hKB]; rfl
  obtain ⟨W1, hW1, hB1, g1⟩ := box_new w 33 KB
  have hr1 := blk_all hB1
  have hiK : (Tryz.prog.info? 33).map (·.size) = some KB.length := by rw [hKl]; exact info_id
  have cl := lacks_no W1 po (h.none g1) KB.toArray
  rw [hkv]
  have HW1 := hide hW1
  have HIK := hide hiK
  clear hW1 hB1 hKB hKl hiK hkv h
  go_enter Tryz.func12, Tryz.ntmps12
  go_wp2_with (first
    | (rw [← unhide HW1]; refine wpList_load_mid rfl 33 _ rfl w.heap.size 0 rfl KB _ hr1 Tryz.underlying33 rfl (unhide HIK) ?_; clear hr1)
    | (go_at_call 38; refine cl.mono ?_; rintro e W2 ⟨rfl, g2⟩; clear cl))
  go_ret
  exact ⟨rfl, tn g1 g2⟩

end Go.Proofs.YtlifmipnoeioaaaGreatDoor

/- What graph's Get, links, parents and Clone answer. Of any set, of nil and of a plain one. -/
namespace Go.Proofs.YtlifmipnoeioaaaGreatDoor
open Go.RowKit

set_option maxRecDepth 100000 in
set_option maxHeartbeats 2000000 in
theorem gget_ok (u w : World) (sb mb : Nat) (S : List ObE) (h : SetAt u w sb mb S) (x : List UInt8) (hx : x.length = 32) (o : ObE) (ho : lkS S x = some o) :
    Calls Tryz.prog 14 #[.pointer (some ⟨sb, 0, none⟩), keyV x] w fun e w' => ∃ v, e = .returned (.tuple #[.agg #[.int .i64 o.k, v], .int .i64 0]) ∧ NewB w w' v o.d ∧ w.grownBy w' none := by
  obtain ⟨KB, hKB⟩ : ∃ KB, KB = x.map bv := ⟨_, rfl⟩
  have hKl : KB.length = 32 := by rw [hKB]; simp [hx]
  have hkv : keyV x = .agg KB.toArray := by rw [hKB]; rfl
  obtain ⟨W0, hW0, hB0, g0⟩ := box_new w 33 KB
  obtain ⟨W1, hW1, hB1, g1⟩ : ∃ W, W = W0.alloc (.cells #[.int .i64 0, .slice none 0 0] 42) ∧ Blk W W0.heap.size 42 [.int .i64 0, .slice none 0 0] ∧ W0.grownBy W none := box_new W0 _ _
  have hs0 : W0.heap.size = w.heap.size + 1 := by rw [hW0]; simp
  rw [hs0] at hB1
  have G1 := tn g0 g1
  have hzo := zero_obj
  have hBk := hB0.kept g1 (by simp)
  have hr1 := blk_all hBk
  have hiK : (Tryz.prog.info? 33).map (·.size) = some KB.length := by rw [hKl]; exact info_id
  have hW : W1 = (w.alloc (.cells KB.toArray 33)).alloc (.cells #[.int .i64 0, .slice none 0 0] 42) := by rw [hW1, hW0]
  have h1 := h.none G1
  have hh : hasS S x = true := by unfold hasS; rw [ho]; rfl
  have cl := lacks_any u W1 sb mb S h1 x hx
  rw [hkv, if_pos hh] at cl
  have ca : ∀ V, W1.grownBy V none → Calls Tryz.prog 40 #[.pointer (some ⟨sb, 0, none⟩), .agg KB.toArray] V fun e w' => ∃ ao c, e = .returned (.agg #[.int .i64 o.k, .slice ao o.d.length c]) ∧ Dat w' ao c o.d ∧ V.grownBy w' none := fun V hV => by
    rw [← hkv]
    refine (at_any V _ S (h1.none hV).sat x hx).mono ?_
    rintro e w' ⟨k, ao, c, d, q1, q2, q3, q4⟩
    rcases q2 with ⟨e, q5, rfl, rfl⟩ | ⟨q5, _⟩
    · rw [ho] at q5
      cases q5
      exact ⟨ao, c, q1, q3.none q4, q4⟩
    · rw [ho] at q5
      cases q5
  have hsm := check_small (h.ok.ok o (lkS_mem ho).1)
  rw [hkv]
  have HW := hide hW
  have HIK := hide hiK
  have HBK := hide hBk
  have HB1 := hide hB1
  clear hW hW1 hW0 hB0 hB1 g0 g1 hs0 hKB hKl hiK hkv h1 h hh ho hx hBk
  go_enter Tryz.func14, Tryz.ntmps14
  go_wp2_with (first
    | (rw [← unhide HW]; refine wpList_load_mid rfl 33 _ rfl w.heap.size 0 rfl KB _ hr1 Tryz.underlying33 rfl (unhide HIK) ?_; clear hr1))
  refine cl.mono ?_
  rintro e w2 ⟨rfl, g2⟩
  have hr2 := blk_all ((unhide HBK).kept g2 (by simp))
  have cb := ca w2 g2
  clear cl ca
  go_wp2_with (refine wpList_load_mid rfl 33 _ rfl w.heap.size 0 rfl KB _ hr2 Tryz.underlying33 rfl (unhide HIK) ?_; clear hr2)
  refine cb.mono ?_
  rintro e w3 ⟨ao, c, rfl, hD, g3⟩
  have cc := copied_any w3 o.k ao c o.d hD.bts (by omega)
  have G3 := tn g2 g3
  clear cb
  go_wp2_with fail
  refine cc.mono ?_
  rintro e w4 ⟨v4, rfl, ho4, g4⟩
  obtain ⟨a4, c4, rfl⟩ := own_sl ho4
  have G4 := tn G3 g4
  have hB4 := (unhide HB1).kept G4 (by simp)
  clear cc
  go_wp2_with (refine wpList_store_row rfl 42 _ _ rfl (w.heap.size + 1) #[.int .i64 o.k, .slice a4 o.d.length c4] rfl rfl _ _ hB4 info_obj rfl (obj_one rfl) ?_)
  refine bodyPost_ret (results_row_tmp rfl _ _ _ _ _ _ _ rfl (hB4.row [.int .i64 o.k, .slice a4 o.d.length c4]) Tryz.underlying42 rfl info_obj) rfl ?_
  refine ⟨_, rfl, NewB.later (NewB.own (own_row_id ho4 hB4 (by decide) _)) (tn G1 G3).size, gb_row (tn G1 G4) _ (Or.inl (Nat.le_succ _))⟩

set_option maxRecDepth 100000 in
set_option maxHeartbeats 2000000 in
/-- Get, where there is none, or no set. -/
theorem gget_noy (w : World) (po : Option Addr) (S : List ObE) (y : Int) (h : (y = 13 ∧ ∃ u sb mb, po = some ⟨sb, 0, none⟩ ∧ SetAt u w sb mb S) ∨ (y = 1 ∧ S = [] ∧ NoSet w po)) (x : List UInt8) (hx : x.length = 32) (ho : lkS S x = none) :
    Calls Tryz.prog 14 #[.pointer po, keyV x] w fun e w' => e = .returned (.tuple #[.agg #[.int .i64 0, .slice none 0 0], .int .i64 y]) ∧ w.grownBy w' none := by
  obtain ⟨KB, hKB⟩ : ∃ KB, KB = x.map bv := ⟨_, rfl⟩
  have hKl : KB.length = 32 := by rw [hKB]; simp [hx]
  have hkv : keyV x = .agg KB.toArray := by rw [hKB]; rfl
  obtain ⟨W0, hW0, hB0, g0⟩ := box_new w 33 KB
  obtain ⟨W1, hW1, hB1, g1⟩ : ∃ W, W = W0.alloc (.cells #[.int .i64 0, .slice none 0 0] 42) ∧ Blk W W0.heap.size 42 [.int .i64 0, .slice none 0 0] ∧ W0.grownBy W none := box_new W0 _ _
  have hs0 : W0.heap.size = w.heap.size + 1 := by rw [hW0]; simp
  rw [hs0] at hB1
  have G1 := tn g0 g1
  have hzo := zero_obj
  have hr1 := blk_all (hB0.kept g1 (by simp))
  have hiK : (Tryz.prog.info? 33).map (·.size) = some KB.length := by rw [hKl]; exact info_id
  have hW : W1 = (w.alloc (.cells KB.toArray 33)).alloc (.cells #[.int .i64 0, .slice none 0 0] 42) := by rw [hW1, hW0]
  have hh : hasS S x = false := by unfold hasS; rw [ho]; rfl
  obtain ⟨hy, cl⟩ : (y != 0) = true ∧ Calls Tryz.prog 38 #[.pointer po, .agg KB.toArray] W1 fun e w' => e = .returned (.int .i64 y) ∧ W1.grownBy w' none := by
    rcases h with ⟨rfl, u, sb, mb, rfl, h2⟩ | ⟨rfl, rfl, h2⟩
    · refine ⟨rfl, ?_⟩
      have := lacks_any u W1 sb mb S (h2.none G1) x hx
      rw [if_neg (by rw [hh]; simp), hkv] at this
      exact this
    · exact ⟨rfl, lacks_no W1 po (h2.none G1) _⟩
  rw [hkv]
  have HW := hide hW
  have HIK := hide hiK
  have HB1 := hide hB1
  clear hW hW1 hW0 hB0 hB1 g0 g1 hs0 hKB hKl hiK hkv h hh ho hx
  go_enter Tryz.func14, Tryz.ntmps14
  go_wp2_with (first
    | (rw [← unhide HW]; refine wpList_load_mid rfl 33 _ rfl w.heap.size 0 rfl KB _ hr1 Tryz.underlying33 rfl (unhide HIK) ?_; clear hr1))
  refine cl.mono ?_
  rintro e w2 ⟨rfl, g2⟩
  have hB4 := (unhide HB1).kept g2 (by simp)
  clear cl
  go_wp2_with (refine wpList_store_row rfl 42 _ _ rfl (w.heap.size + 1) #[.int .i64 0, .slice none 0 0] rfl rfl _ _ hB4 info_obj rfl (obj_one rfl) ?_)
  refine bodyPost_ret (results_row_tmp rfl _ _ _ _ _ _ _ rfl (hB4.row [.int .i64 0, .slice none 0 0]) Tryz.underlying42 rfl info_obj) rfl ?_
  exact ⟨rfl, gb_row (tn G1 g2) _ (Or.inl (Nat.le_succ _))⟩

theorem gget_no (w : World) (po : Option Addr) (S : List ObE) (h : Sat w po S) (x : List UInt8) (hx : x.length = 32) (ho : lkS S x = none) :
    Calls Tryz.prog 14 #[.pointer po, keyV x] w fun e w' => ∃ y, e = .returned (.tuple #[.agg #[.int .i64 0, .slice none 0 0], .int .i64 y]) ∧ ((∃ u sb mb, SetAt u w sb mb S ∧ y = 13) ∨ (NoSet w po ∧ y = 1)) ∧ w.grownBy w' none := by
  rcases h with ⟨u, sb, mb, h1, h2⟩ | ⟨h1, h2⟩
  · exact (gget_noy w po S 13 (Or.inl ⟨rfl, u, sb, mb, h1, h2⟩) x hx ho).mono (fun e w' h => ⟨13, h.1, Or.inl ⟨u, sb, mb, h2, rfl⟩, h.2⟩)
  · exact (gget_noy w po S 1 (Or.inr ⟨rfl, h1, h2⟩) x hx ho).mono (fun e w' h => ⟨1, h.1, Or.inr ⟨h2, rfl⟩, h.2⟩)

set_option maxRecDepth 100000 in
theorem links_any (w : World) (po : Option Addr) (S : List ObE) (h : Sat w po S) (x : List UInt8) (hx : x.length = 32) :
    Calls Tryz.prog 46 #[.pointer po, keyV x] w fun e w' => ∃ v, e = .returned v ∧ w'.ownsRow w.heap.size 33 32 v (nxS S x).length ((nxS S x).flatMap (·.map bv)) ∧ w.grownBy w' none := by
  obtain ⟨KB, hKB⟩ : ∃ KB, KB = x.map bv := ⟨_, rfl⟩
  have hKl : KB.length = 32 := by rw [hKB]; simp [hx]
  have hkv : keyV x = .agg KB.toArray := by rw [hKB]; rfl
  obtain ⟨W1, hW1, hB1, g1⟩ := box_new w 33 KB
  have hr1 := blk_all hB1
  have hiK : (Tryz.prog.info? 33).map (·.size) = some KB.length := by rw [hKl]; exact info_id
  have ca := at_any W1 po S (h.none g1) x hx
  rw [hkv] at ca ⊢
  have HW1 := hide hW1
  have HIK := hide hiK
  clear hW1 hB1 hKB hKl hiK hkv h hx
  go_enter Tryz.func46, Tryz.ntmps46
  go_wp2_with (first
    | (rw [← unhide HW1]; refine wpList_load_mid rfl 33 _ rfl w.heap.size 0 rfl KB _ hr1 Tryz.underlying33 rfl (unhide HIK) ?_; clear hr1))
  refine ca.mono ?_
  rintro e w2 ⟨k, ao, c, d, rfl, hat, hD, g2⟩
  have cl := olinks_any w2 k ao c d (hD.none g2).bts
  rw [hat.links] at cl
  clear ca
  go_wp2_with fail
  refine cl.mono ?_
  rintro e w3 ⟨v, rfl, ho, g3⟩
  have HO := hide ho
  clear cl ho
  go_wp2
  go_ret
  exact ⟨v, rfl, own_low (unhide HO) (tn g1 g2).size, tn (tn g1 g2) g3⟩

set_option maxRecDepth 100000 in
set_option maxHeartbeats 2000000 in
theorem parents_any (w : World) (po : Option Addr) (S : List ObE) (h : Sat w po S) (x : List UInt8) (hx : x.length = 32) :
    Calls Tryz.prog 51 #[.pointer po, keyV x] w fun e w' => ∃ v, e = .returned v ∧ w'.ownsRow w.heap.size 33 32 v (prS S x).length ((prS S x).flatMap (·.map bv)) ∧ w.grownBy w' none := by
  obtain ⟨KB, hKB⟩ : ∃ KB, KB = x.map bv := ⟨_, rfl⟩
  have hKl : KB.length = 32 := by rw [hKB]; simp [hx]
  have hkv : keyV x = .agg KB.toArray := by rw [hKB]; rfl
  obtain ⟨W1, hW1, hB1, g1⟩ := box_new w 33 KB
  have hr1 := blk_all hB1
  have hiK : (Tryz.prog.info? 33).map (·.size) = some KB.length := by rw [hKl]; exact info_id
  have ca := at_any W1 po S (h.none g1) x hx
  rw [hkv] at ca ⊢
  have hok := h.ok
  obtain ⟨Z, hZ, hzv⟩ := zero_chg
  have HW1 := hide hW1
  have HIK := hide hiK
  clear hW1 hB1 hKB hKl hiK hkv h hx
  go_enter Tryz.func51, Tryz.ntmps51
  go_wp2_with (first
    | (rw [← unhide HW1]; refine wpList_load_mid rfl 33 _ rfl w.heap.size 0 rfl KB _ hr1 Tryz.underlying33 rfl (unhide HIK) ?_; clear hr1))
  refine ca.mono ?_
  rintro e w2 ⟨k, ao, c, d, rfl, hat, hD, g2⟩
  have cl := changeOf_any w2 k ao c d (hD.none g2).bts (by have := hat.small hok; omega)
  clear ca
  go_wp2_with fail
  refine cl.mono ?_
  rintro e w3 ⟨po3, pc3, y3, rfl, hy3, ho, g3⟩
  obtain ⟨C, hC⟩ : ∃ C, C = chC (telC k d).2 po3 pc3 := ⟨_, rfl⟩
  have htl : (telC k d).2.tree.length = 32 := by
    unfold telC
    split
    · split
      · exact (readC_ok d).1
      · rfl
    · rfl
  have hCl : C.length = 36 := by rw [hC]; exact chC_len _ _ _ htl
  have hCo : C.toArray.all (·.oneCell') = true := by rw [hC]; exact all_oneCell_toArray (chC_one _ _ _)
  have hc32 : C[32]? = some (.slice po3 (telC k d).2.pars.length pc3) := by rw [hC]; exact (chC_at _ _ _ htl).1
  rw [hat.pars] at ho hc32
  rw [← hC]
  obtain ⟨W4, hW4, hB4, g4⟩ := row_new w3 72 Z C
  have hBZ : Blk (w3.alloc (.cells Z 72)) w3.heap.size 72 Z.toList := by simpa using Blk.new w3 72 Z.toList
  have hc4 : W4.cell? ⟨w3.heap.size, 32, none⟩ = some (.slice po3 (prS S x).length pc3) := by rw [hB4.cell]; exact hc32
  have hiC : (Tryz.prog.info? 72).map (·.size) = some C.toArray.size := by rw [show C.toArray.size = 36 by simpa using hCl]; exact info_chg
  have hZC : Z.toList.toArray.size = C.toArray.size := by simp [hZ, hCl]
  have HI := hide hiC
  have HZC := hide hZC
  have HCO := hide hCo
  have HBZ := hide hBZ
  have HW4 := hide hW4
  have HO := hide ho
  clear cl ho hC htl hCl hCo hc32 hB4 hBZ hW4 hiC hZC hy3 hZ
  go_wp2_with (first
    | (have hB9 := unhide HBZ; refine wpList_store_row rfl 72 _ _ rfl w3.heap.size C.toArray rfl rfl _ _ hB9 (unhide HI) (unhide HZC) (unhide HCO) ?_; clear hB9; rw [← unhide HW4]))
  go_ret
  have ho4 := own_id (own_low (unhide HO) (tn g1 g2).size) g4 (fun _ e => by cases e)
  exact ⟨_, rfl, ho4, tn (tn (tn g1 g2) g3) g4⟩

end Go.Proofs.YtlifmipnoeioaaaGreatDoor
