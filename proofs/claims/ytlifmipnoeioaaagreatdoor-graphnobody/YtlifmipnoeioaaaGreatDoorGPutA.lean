/- What graph's copied, Put, Get and Drop answer. Of any set, of nil and of a plain one. -/
import Derived.Test.YtlifmipnoeioaaaGreatDoorGHas
import Derived.Test.YtlifmipnoeioaaaGreatDoorOId
namespace Go.Proofs.YtlifmipnoeioaaaGreatDoor
open Go.RowKit

theorem own_oneCell {w : World} {base k n : Nat} {t : TypeId} {v : Value} {xs : List Value} (h : w.ownsRow base t k v n xs) : v.oneCell' = true := by
  rcases h.2 with ⟨rfl, _⟩ | ⟨g, cap, cur, rfl, _⟩ <;> rfl
theorem own_dat {w : World} {base : Nat} {v : Value} {d : List UInt8} (h : w.ownsRow base 5 1 v d.length (d.map bv)) : ∃ ao c, v = .slice ao d.length c ∧ Dat w ao c d := by
  obtain ⟨_, ao, c, h1, h2, h3⟩ := own_read h
  exact ⟨ao, c, h1, h2, fun ad e => (h3 ad e).2⟩
theorem built_obj (k : Int) (ao : Option Addr) (n c : Nat) : Tryz.prog.built 42 [(0, .int .i64 k), (1, .slice ao n c)] = some #[.int .i64 k, .slice ao n c] := by kernel_rfl

set_option maxRecDepth 100000 in
set_option maxHeartbeats 1000000 in
theorem copied_any (w : World) (k : Int) (ao : Option Addr) (c : Nat) (d : List UInt8) (hd : Bts w ao c d) (hl : d.length ≤ 1000000) :
    Calls Tryz.prog 39 #[.agg #[.int .i64 k, .slice ao d.length c]] w fun e w' => ∃ v, e = .returned (.agg #[.int .i64 k, v]) ∧ w'.ownsRow w.heap.size 5 1 v d.length (d.map bv) ∧ w.grownBy w' none := by
  obtain ⟨n, hn⟩ : ∃ n, n = d.length := ⟨_, rfl⟩
  obtain ⟨W0, hW0, hB0, g0⟩ : ∃ W, W = w.alloc (.cells #[.int .i64 k, .slice ao n c] 42) ∧ Blk W w.heap.size 42 [.int .i64 k, .slice ao n c] ∧ w.grownBy W none := box_new w _ _
  obtain ⟨W1, hW1, hB1, g1⟩ : ∃ W, W = W0.alloc (.cells #[.int .i64 0, .slice none 0 0] 42) ∧ Blk W W0.heap.size 42 [.int .i64 0, .slice none 0 0] ∧ W0.grownBy W none := box_new W0 _ _
  have hs0 : W0.heap.size = w.heap.size + 1 := by rw [hW0]; simp
  have hs1 : W1.heap.size = w.heap.size + 2 := by rw [hW1, hW0]; simp
  rw [hs0] at hB1
  have G1 := tn g0 g1
  have hzo := zero_obj
  have hBo := hB0.kept g1 (by simp)
  have hc0 := hBo.cell 0
  have hc1 := hBo.cell 1
  simp only [List.getElem?_cons_zero, List.getElem?_cons_succ] at hc0 hc1
  have hW : W1 = (w.alloc (.cells #[.int .i64 k, .slice ao n c] 42)).alloc (.cells #[.int .i64 0, .slice none 0 0] 42) := by rw [hW1, hW0]
  have cc : Calls Tryz.prog 69 #[.slice ao n c] W1.drew fun e w' => ∃ v, e = .returned v ∧ w'.ownsRow (w.heap.size + 2) 5 1 v n (d.map bv) ∧ W1.drew.grownBy w' none := by
    have := bcloned_any W1.drew ao c d (hd.kept (gb_drew G1) (fun _ e => by cases e)) hl
    rw [← hn] at this
    exact this.mono fun e w' ⟨v, h1, h2, h3⟩ => ⟨v, h1, own_low h2 (by rw [← hs1]; exact Nat.le_refl _), h3⟩
  rw [← hn]
  have h0 : W1.grownBy W1.drew (some (w.heap.size + 1)) := gb_drew (gb_refl _ _)
  have HW := hide hW
  have HB4 := hide hB1
  have HG : Hid (∀ {V : World}, W1.grownBy V none → ∀ A, w.grownBy (V.setRow (w.heap.size + 1) A) none) := fun hV A => gb_row (tn G1 hV) A (Or.inl (Nat.le_succ _))
  clear hW hW1 hW0 hB0 hB1 g0 g1 hs0 hs1 hBo hd hl hn G1
  go_enter Tryz.func39, Tryz.ntmps39
  go_upto_region 1 with (rw [← unhide HW])
  refine wp_region_noPanic ?_
  refine wp_region_held_drew (S := fun V => W1.grownBy V (some (w.heap.size + 1))) (by kernel_rfl) h0 (fun _ => ?_)
  refine wpAnyH_take (i := 0) (oi := ⟨some 3, .fieldAddr 42 (.tmp 1) 0, _, _, _, _⟩) (v := .pointer (some ⟨w.heap.size, 0, none⟩)) rfl (by kernel_rfl) (by kernel_rfl) (by kernel_rfl) (fun _ _ _ h => h) (Or.inl ⟨by rfl, fun V (hV : W1.grownBy V (some (w.heap.size + 1))) => by go_simp⟩) h0 ?_
  (try simp only [Act.put, pq1, pq2, pq3])
  refine wpAnyH_take (i := 1) (oi := ⟨some 4, .load 3 (.tmp 3), _, _, _, _⟩) (v := .int .i64 k) rfl (by kernel_rfl) (by kernel_rfl) (by kernel_rfl) (fun _ _ _ h => h) (Or.inl ⟨by rfl, fun V (hV : W1.grownBy V (some (w.heap.size + 1))) => by (have hv1 := hV.cell hc0 (by simp); go_simp)⟩) h0 ?_
  (try simp only [Act.put, pq1, pq2, pq3])
  refine wpAnyH_take (i := 2) (oi := ⟨some 5, .fieldAddr 42 (.tmp 1) 1, _, _, _, _⟩) (v := .pointer (some ⟨w.heap.size, 1, none⟩)) rfl (by kernel_rfl) (by kernel_rfl) (by kernel_rfl) (fun _ _ _ h => h) (Or.inl ⟨by rfl, fun V (hV : W1.grownBy V (some (w.heap.size + 1))) => by go_simp⟩) h0 ?_
  (try simp only [Act.put, pq1, pq2, pq3])
  refine wpAnyH_take (i := 3) (oi := ⟨some 6, .load 37 (.tmp 5), _, _, _, _⟩) (v := .slice ao n c) rfl (by kernel_rfl) (by kernel_rfl) (by kernel_rfl) (fun _ _ _ h => h) (Or.inl ⟨by rfl, fun V (hV : W1.grownBy V (some (w.heap.size + 1))) => by (have hv1 := hV.cell hc1 (by simp); go_simp)⟩) h0 ?_
  (try simp only [Act.put, pq1, pq2, pq3])
  refine wpAnyH_ready (rs := [4]) (by kernel_rfl) (by simp) ?_
  refine AllReadyH.cons (o := ⟨some 7, .call { callee := .value (.func 69), args := #[(.tmp 6)], argTypes := #[37] }, _, _, _, _⟩) rfl (fun K9 hK9 => ?_) AllReadyH.nil
  go_simp
  go_at_call 69
  refine (cc).mono ?_
  rintro e w2 ⟨v2, rfl, ho2, g2a⟩
  obtain ⟨a2, c2, rfl⟩ := own_sl ho2
  have g2 := gb_none (some (w.heap.size + 1)) (tn (gb_drew (gb_refl W1 none)) g2a)
  go_wp2_with fail
  refine hK9.out _ _ g2 (fun _ => ?_)
  clear hK9 K9
  (try simp only [Act.put, pq1, pq2, pq3])
  refine wpAnyH_take (i := 5) (oi := ⟨some 8, .build 42 #[(0, (.tmp 4)), (1, (.tmp 7))], _, _, _, _⟩) (v := .agg #[.int .i64 k, .slice a2 n c2]) rfl (by kernel_rfl) (by kernel_rfl) (by kernel_rfl) (fun _ _ _ h => h) (yieldsIf_built (by rfl) _ _ rfl _ (Eq.trans (b := Tryz.prog.built 42 [(0, .int .i64 k), (1, .slice a2 n c2)]) (by kernel_rfl) (built_obj k a2 n c2))) g2 ?_
  (try simp only [Act.put, pq1, pq2, pq3])
  refine wpAnyH_ready (rs := [6]) (by kernel_rfl) (by simp) ?_
  refine AllReadyH.cons (o := ⟨none, .store 42 (.tmp 2) (.tmp 8), _, _, _, _⟩) rfl (fun K9 hK9 => ?_) AllReadyH.nil
  rw [if_pos (by rfl)]
  have hB4 := (unhide HB4).kept (tn (gb_drew (gb_refl W1 none)) g2a) (by simp)
  refine wp_store_row _ _ _ rfl (w.heap.size + 1) _ rfl rfl _ _ hB4 info_obj rfl (obj_one rfl) ?_
  refine hK9.out _ _ (gb_row g2 _ (Or.inr rfl)) (fun _ => ?_)
  clear hK9 K9
  (try simp only [Act.put])
  refine wpAnyH_done (by kernel_rfl) ?_ _
  refine NoPanic.normal ?_
  clear cc hc0 hc1
  have hR := hB4.row [.int .i64 k, .slice a2 n c2]
  go_wp2
  refine bodyPost_ret (results_cell_row rfl _ _ _ _ _ _ _ rfl hR Tryz.underlying42 rfl info_obj) rfl ?_
  exact ⟨_, rfl, own_low (own_row_id ho2 hB4 (by decide) _) (Nat.le_add_right _ _), unhide HG (tn (gb_drew (gb_refl W1 none)) g2a) _⟩

end Go.Proofs.YtlifmipnoeioaaaGreatDoor

/- What graph's Put answers. Of any set, of nil and of a plain one. -/
namespace Go.Proofs.YtlifmipnoeioaaaGreatDoor
open Go.RowKit

theorem SetS.put {S : List ObE} (h : SetS S) (k : Int) (d : List UInt8) (hc : checkL k d = 0) (hf : S.length < 1000) : SetS (putS S ⟨shaL (putL k d), k, d⟩) := by
  refine ⟨putS_ris h.ris _, fun e he => ?_, fun e he => ?_, fun e he => ?_, Nat.le_trans (putS_len _ _) hf⟩ <;> rcases (putS_mem h.ris _ e).1 he with rfl | ⟨h1, _⟩
  · exact shaL_length _
  · exact h.len e h1
  · rfl
  · exact h.is e h1
  · exact hc
  · exact h.ok e h1
theorem SetS.drop {S : List ObE} (h : SetS S) (x : List UInt8) : SetS (dropS S x) :=
  ⟨dropS_ris h.ris x, fun e he => h.len e ((dropS_mem S x e).1 he).1, fun e he => h.is e ((dropS_mem S x e).1 he).1, fun e he => h.ok e ((dropS_mem S x e).1 he).1, Nat.le_trans (dropS_len S x) h.few⟩

/-- 's.objects[id] = o'. -/
theorem SetAt.store {u w : World} {sb mb : Nat} {S : List ObE} (h : SetAt u w sb mb S) (k : Int) (ao : Option Addr) (c : Nat) (d : List UInt8) (hd : Dat w ao c d) (hc : checkL k d = 0) (hf : S.length < 1000) :
    ∃ w', (Instr.mapUpdate 76 (.map (some mb)) (keyV (shaL (putL k d))) (.agg #[.int .i64 k, .slice ao d.length c])).run Tryz.prog w = .ok () w' ∧ SetAt u w' sb mb (putS S ⟨shaL (putL k d), k, d⟩) ∧ w.grownBy w' (some mb) := by
  obtain ⟨R, m1, m2, m3⟩ := h.map
  obtain ⟨w', hr, hm, hg, _⟩ := m1.store 76 42 Tryz.underlying76 (shaL (putL k d)) (shaL_length _) (.agg #[.int .i64 k, .slice ao d.length c])
  refine ⟨w', hr, ⟨h.ns, h.nm, h.blk.kept hg (fun e => h.ne (by cases e; rfl)), ?_, h.ok.put k d hc hf⟩, hg⟩
  obtain ⟨I, hI⟩ : ∃ I, I = shaL (putL k d) := ⟨_, rfl⟩
  rw [← hI] at hm ⊢
  have hdk : ∀ ao c d, Dat w ao c d → Dat w' ao c d := fun ao c d hD => hD.kept hg (fun x e => by cases e; exact m1.typ)
  have hrid : ∀ r ∈ R, r.e ∈ S := fun r hr => (m2 r.e).1 (List.mem_map.2 ⟨r, hr, rfl⟩)
  by_cases hin : I ∈ (R.map fun r => (r.e.id, obV r)).map (·.1)
  · refine ⟨R.map fun r => if r.e.id = I then ⟨⟨I, k, d⟩, ao, c⟩ else r, ?_, fun e => ?_, fun r hr => ?_⟩
    · have : (R.map fun r => if r.e.id = I then (⟨⟨I, k, d⟩, ao, c⟩ : ObR) else r).map (fun r => (r.e.id, obV r)) = putK (R.map fun r => (r.e.id, obV r)) I (.agg #[.int .i64 k, .slice ao d.length c]) := by
        unfold putK
        rw [if_pos hin, List.map_map, List.map_map]
        apply List.map_congr_left
        intro r _
        simp only [Function.comp]
        split <;> rfl
      rw [this]
      exact hm
    · rw [putS_mem h.ok.ris, List.map_map]
      constructor
      · intro he
        obtain ⟨r, hr, rfl⟩ := List.mem_map.1 he
        simp only [Function.comp]
        split
        · exact Or.inl rfl
        · rename_i hne
          exact Or.inr ⟨hrid r hr, hne⟩
      · rintro (rfl | ⟨h1, h2⟩)
        · rw [List.map_map] at hin
          obtain ⟨r, hr, he⟩ := List.mem_map.1 hin
          exact List.mem_map.2 ⟨r, hr, by simp only [Function.comp] at he ⊢; rw [if_pos he]⟩
        · obtain ⟨r, hr, rfl⟩ := List.mem_map.1 ((m2 e).2 h1)
          exact List.mem_map.2 ⟨r, hr, by simp only [Function.comp]; rw [if_neg h2]⟩
    · obtain ⟨r', hr', rfl⟩ := List.mem_map.1 hr
      split
      · exact hdk _ _ _ hd
      · exact hdk _ _ _ (m3 r' hr')
  · refine ⟨R ++ [⟨⟨I, k, d⟩, ao, c⟩], ?_, fun e => ?_, fun r hr => ?_⟩
    · have : (R ++ [(⟨⟨I, k, d⟩, ao, c⟩ : ObR)]).map (fun r => (r.e.id, obV r)) = putK (R.map fun r => (r.e.id, obV r)) I (.agg #[.int .i64 k, .slice ao d.length c]) := by
        unfold putK
        rw [if_neg hin, List.map_append]
        rfl
      rw [this]
      exact hm
    · rw [putS_mem h.ok.ris, List.map_append, List.mem_append]
      constructor
      · rintro (he | he)
        · obtain ⟨r, hr, rfl⟩ := List.mem_map.1 he
          exact Or.inr ⟨hrid r hr, fun e2 => hin (by rw [List.map_map]; exact List.mem_map.2 ⟨r, hr, e2⟩)⟩
        · exact Or.inl (by simpa using he)
      · rintro (rfl | ⟨h1, h2⟩)
        · exact Or.inr (by simp)
        · exact Or.inl ((m2 e).2 h1)
    · rcases List.mem_append.1 hr with hr | hr
      · exact hdk _ _ _ (m3 r hr)
      · rw [List.mem_singleton.1 hr]
        exact hdk _ _ _ hd

/-- 'delete(s.objects, id)'. -/
theorem SetAt.delete {u w : World} {sb mb : Nat} {S : List ObE} (h : SetAt u w sb mb S) (x : List UInt8) (hx : x.length = 32) (U : TypeId) :
    ∃ w', (Builtin.delete_ #[76, 33] U #[.map (some mb), keyV x]).run Tryz.prog w = .ok (.tuple #[]) w' ∧ SetAt u w' sb mb (dropS S x) ∧ w.grownBy w' (some mb) := by
  obtain ⟨R, m1, m2, m3⟩ := h.map
  obtain ⟨w', hr, hm, hg, _⟩ := m1.del 76 42 U #[76, 33] rfl Tryz.underlying76 x hx
  refine ⟨w', hr, ⟨h.ns, h.nm, h.blk.kept hg (fun e => h.ne (by cases e; rfl)), ⟨R.filter fun r => r.e.id != x, ?_, fun e => ?_, fun r hr => ?_⟩, h.ok.drop x⟩, hg⟩
  · have : (R.filter fun r => r.e.id != x).map (fun r => (r.e.id, obV r)) = delK (R.map fun r => (r.e.id, obV r)) x := by
      unfold delK
      rw [List.filter_map]
      rfl
    rw [this]
    exact hm
  · rw [dropS_mem]
    constructor
    · intro he
      obtain ⟨r, hr, rfl⟩ := List.mem_map.1 he
      rw [List.mem_filter] at hr
      exact ⟨(m2 r.e).1 (List.mem_map.2 ⟨r, hr.1, rfl⟩), by simpa using hr.2⟩
    · rintro ⟨h1, h2⟩
      obtain ⟨r, hr, rfl⟩ := List.mem_map.1 ((m2 e).2 h1)
      exact List.mem_map.2 ⟨r, List.mem_filter.2 ⟨hr, by simpa using h2⟩, rfl⟩
  · exact (m3 r (List.mem_filter.1 hr).1).kept hg (fun x e => by cases e; exact m1.typ)

set_option maxRecDepth 100000 in
set_option maxHeartbeats 2000000 in
theorem gput_ok (u w : World) (sb mb : Nat) (S : List ObE) (h : SetAt u w sb mb S) (k : Int) (ao : Option Addr) (c : Nat) (d : List UInt8) (hd : Dat w ao c d) (hc : checkL k d = 0) (hf : S.length < 1000) (hT : Tabs w) :
    Calls Tryz.prog 32 #[.pointer (some ⟨sb, 0, none⟩), .agg #[.int .i64 k, .slice ao d.length c]] w fun e w' => e = .returned (.tuple #[keyV (shaL (putL k d)), .int .i64 0]) ∧ SetAt u w' sb mb (putS S ⟨shaL (putL k d), k, d⟩) ∧ w.grownBy w' (some mb) := by
  have hsm := check_small hc
  obtain ⟨n, hn⟩ : ∃ n, n = d.length := ⟨_, rfl⟩
  obtain ⟨Z, hZ, hzv⟩ := zero_id
  obtain ⟨W0, hW0, hB0, g0⟩ : ∃ W, W = w.alloc (.cells #[.int .i64 k, .slice ao n c] 42) ∧ Blk W w.heap.size 42 [.int .i64 k, .slice ao n c] ∧ w.grownBy W none := box_new w _ _
  obtain ⟨W1, hW1, hB1, g1⟩ : ∃ W, W = W0.alloc (.cells Z 33) ∧ Blk W W0.heap.size 33 Z.toList ∧ W0.grownBy W none := by
    obtain ⟨W1, h1, h2, h3⟩ := box_new W0 33 Z.toList
    exact ⟨W1, by simpa using h1, h2, h3⟩
  have hs0 : W0.heap.size = w.heap.size + 1 := by rw [hW0]; simp
  rw [hs0] at hB1
  have G1 := tn g0 g1
  have hBo := hB0.kept g1 (by simp)
  have hr1 := blk_all hBo
  have hW : W1 = (w.alloc (.cells #[.int .i64 k, .slice ao n c] 42)).alloc (.cells Z 33) := by rw [hW1, hW0]
  have h1 := h.none G1
  have c1 := made_any W1 sb mb h1.cell
  have ck := check_any W1 k ao c d (hd.none G1).bts
  rw [hc, ← hn] at ck
  obtain ⟨IB, hIB⟩ : ∃ IB, IB = (shaL (putL k d)).map bv := ⟨_, rfl⟩
  have hIl : IB.length = 32 := by rw [hIB, List.length_map]; exact shaL_length _
  have hIo : IB.toArray.all (·.oneCell') = true := by rw [hIB]; exact all_oneCell_toArray (bv_one _)
  have hiI : (Tryz.prog.info? 33).map (·.size) = some IB.length := by rw [hIl]; exact info_id
  have hiI2 : (Tryz.prog.info? 33).map (·.size) = some IB.toArray.size := by simpa using hiI
  have hZI : Z.size = IB.toArray.size := by simp [hZ, hIl]
  have hkv : keyV (shaL (putL k d)) = .agg IB.toArray := by rw [hIB]; rfl
  have cid : ∀ V, W1.grownBy V none → Calls Tryz.prog 60 #[.agg #[.int .i64 k, .slice ao n c]] V fun e w' => e = .returned (.agg IB.toArray) ∧ V.grownBy w' none := fun V hV => by
    have := oid_any V k ao c d (hd.none (tn G1 hV)).bts (by omega) (hT.kept0 (tn G1 hV))
    rw [← hn, ← hIB] at this
    exact this
  have hnew : ∀ V : World, ∃ W, W = (V.alloc (.cells Z 33)).setRow V.heap.size IB.toArray ∧ Blk W V.heap.size 33 IB ∧ V.grownBy W none := fun V => row_new V 33 Z IB
  rw [hkv, ← hn]
  have HW := hide hW
  have HII := hide hiI
  have HII2 := hide hiI2
  have HIO := hide hIo
  have HZI := hide hZI
  have HN := hide hn
  have HKV := hide hkv
  have HB1 := hide hB1
  have HBO := hide hBo
  have HS := hide h1
  have HLT : Hid (w.heap.size + 1 < W1.heap.size) := hB1.lt
  clear hW hW1 hW0 hB0 hB1 g0 g1 hs0 hIl hIo hiI hiI2 hZI hn hkv hBo h1 hT h hZ hIB
  go_enter Tryz.func32, Tryz.ntmps32
  go_wp2_with (first
    | (go_at_call 36; refine c1.mono ?_; rintro e w2 ⟨rfl, e2⟩; subst w2; clear c1)
    | (refine wpList_load_mid rfl 42 _ rfl w.heap.size 0 rfl [Value.int IntKind.i64 k, Value.slice ao n c] _ hr1 Tryz.underlying42 rfl info_obj ?_; clear hr1)
    | rw [← unhide HW])
  refine ck.mono ?_
  rintro e w2 ⟨rfl, g2⟩
  have hr2 := blk_all ((unhide HBO).kept g2 (by simp))
  have cI := cid w2 g2
  clear ck cid
  go_wp2_with (refine wpList_load_mid rfl 42 _ rfl w.heap.size 0 rfl [Value.int IntKind.i64 k, Value.slice ao n c] _ hr2 Tryz.underlying42 rfl info_obj ?_; clear hr2)
  refine cI.mono ?_
  rintro e w3 ⟨rfl, g3⟩
  obtain ⟨W3, hW3, hB3, g3b⟩ := hnew w3
  have G3 := tn (tn g2 g3) g3b
  have hB7 : Blk (w3.alloc (.cells Z 33)) w3.heap.size 33 Z.toList := by simpa using Blk.new w3 33 Z.toList
  clear cI hnew
  have HW3 := hide hW3
  have HB7 := hide hB7
  clear hW3 hB7
  go_upto_region 7 with (first
    | (have hB9 := unhide HB7; refine wpList_store_row rfl 33 _ _ rfl w3.heap.size IB.toArray rfl rfl _ _ hB9 (unhide HII2) (by simpa using unhide HZI) (unhide HIO) ?_; clear hB9))
  rw [← unhide HW3]
  have hS3 := (unhide HS).none G3
  have hc3 := hS3.cell
  have hrI := blk_all hB3
  have hrO := blk_all ((unhide HBO).kept G3 (by simp))
  have hNS : some sb ≠ some mb := fun e => hS3.ne (by cases e; rfl)
  have hNI : some w3.heap.size ≠ some mb := fun e => by
    obtain ⟨R, m1, _⟩ := hS3.map
    exact m1.blk hB3 (by cases e; rfl)
  have hNO : some w.heap.size ≠ some mb := fun e => by
    obtain ⟨R, m1, _⟩ := hS3.map
    exact m1.blk ((unhide HBO).kept G3 (by simp)) (by cases e; rfl)
  have hN1 : some (w.heap.size + 1) ≠ some mb := fun e => by
    obtain ⟨R, m1, _⟩ := hS3.map
    exact m1.blk ((unhide HB1).kept G3 (by simp)) (by cases e; rfl)
  have hd3 := hd.none (tn G1 G3)
  have cc : Calls Tryz.prog 39 #[.agg #[.int .i64 k, .slice ao n c]] W3.drew fun e w' => ∃ a4 c4, e = .returned (.agg #[.int .i64 k, .slice a4 n c4]) ∧ Dat w' a4 c4 d ∧ W3.drew.grownBy w' none := by
    have := copied_any W3.drew k ao c d (hd3.none (gb_drew (gb_refl _ _))).bts (by omega)
    rw [← unhide HN] at this
    refine this.mono ?_
    rintro e w' ⟨v, h1, h2, h3⟩
    obtain ⟨a4, c4, rfl, h5⟩ := own_dat (by rw [← unhide HN]; exact h2)
    exact ⟨a4, c4, by rw [h1, unhide HN], h5, h3⟩
  have HMU : Hid (∀ w4 a4 c4, W3.drew.grownBy w4 none → Dat w4 a4 c4 d → ∃ w5, (Instr.mapUpdate 76 (.map (some mb)) (.agg IB.toArray) (.agg #[.int .i64 k, .slice a4 n c4])).run Tryz.prog w4 = .ok () w5 ∧ W3.grownBy w5 (some mb) ∧ SetAt u w5 sb mb (putS S ⟨shaL (putL k d), k, d⟩)) := by
    intro w4 a4 c4 g4 hD4
    have g4' : W3.grownBy w4 none := tn (gb_drew (gb_refl _ _)) g4
    obtain ⟨w5, q1, q2, q3⟩ := (hS3.none g4').store k a4 c4 d hD4 hc hf
    exact ⟨w5, by rw [← unhide HKV, unhide HN]; exact q1, gb_trans (gb_none _ g4') q3 (fun _ e => Or.inr e), q2⟩
  have h0 : W3.grownBy W3.drew (some mb) := gb_drew (gb_refl _ _)
  have HNS := hide hNS
  have HNI := hide hNI
  have HNO := hide hNO
  have HN1 := hide hN1
  have HG : Hid (∀ V, W3.grownBy V (some mb) → w.grownBy (V.setRow (w.heap.size + 1) IB.toArray) (some mb)) := fun V hV => gb_row (gb_trans (gb_none _ (tn G1 G3)) hV (fun _ e => Or.inr e)) _ (Or.inl (Nat.le_succ _))
  clear hNS hNI hNO hN1 hS3 hd3 g2 g3 hd hc hf hsm
  refine wp_region_noPanic ?_
  refine wp_region_held_drew (S := fun V => W3.grownBy V (some mb)) (by kernel_rfl) h0 (fun _ => ?_)
  refine wpAnyH_take (i := 0) (oi := ⟨some 20, .move (.tmp 0), _, _, _, _⟩) (v := .pointer (some ⟨sb, 0, none⟩)) rfl (by kernel_rfl) (by kernel_rfl) (by kernel_rfl) (fun _ _ _ h => h) (Or.inl ⟨by rfl, fun V (hV : W3.grownBy V (some mb)) => by go_simp⟩) h0 ?_
  (try simp only [Act.put, pq1, pq2, pq3])
  refine wpAnyH_take (i := 1) (oi := ⟨some 21, .nilCheck (.tmp 20), _, _, _, _⟩) (v := .pointer (some ⟨sb, 0, none⟩)) rfl (by kernel_rfl) (by kernel_rfl) (by kernel_rfl) (fun _ _ _ h => h) (Or.inl ⟨by rfl, fun V (hV : W3.grownBy V (some mb)) => by go_simp⟩) h0 ?_
  (try simp only [Act.put, pq1, pq2, pq3])
  refine wpAnyH_take (i := 2) (oi := ⟨some 22, .fieldAddr 78 (.tmp 21) 0, _, _, _, _⟩) (v := .pointer (some ⟨sb, 0, none⟩)) rfl (by kernel_rfl) (by kernel_rfl) (by kernel_rfl) (fun _ _ _ h => h) (Or.inl ⟨by rfl, fun V (hV : W3.grownBy V (some mb)) => by go_simp⟩) h0 ?_
  (try simp only [Act.put, pq1, pq2, pq3])
  refine wpAnyH_take (i := 3) (oi := ⟨some 23, .load 76 (.tmp 22), _, _, _, _⟩) (v := .map (some mb)) rfl (by kernel_rfl) (by kernel_rfl) (by kernel_rfl) (fun _ _ _ h => h) (Or.inl ⟨by rfl, fun V (hV : W3.grownBy V (some mb)) => by (have hv1 := hV.cell hc3 (unhide HNS); go_simp)⟩) h0 ?_
  (try simp only [Act.put, pq1, pq2, pq3])
  refine wpAnyH_take (i := 4) (oi := ⟨some 24, .load 33 (.tmp 7), _, _, _, _⟩) (v := .agg IB.toArray) rfl (by kernel_rfl) (by kernel_rfl) (by kernel_rfl) (fun _ _ _ h => h) (yieldsIf_load_mid (by rfl) _ _ rfl _ _ rfl IB _ (fun V hV => range_kept hrI hV (unhide HNI)) Tryz.underlying33 rfl (unhide HII)) h0 ?_
  (try simp only [Act.put, pq1, pq2, pq3])
  refine wpAnyH_take (i := 5) (oi := ⟨some 25, .load 42 (.tmp 3), _, _, _, _⟩) (v := .agg [Value.int IntKind.i64 k, Value.slice ao n c].toArray) rfl (by kernel_rfl) (by kernel_rfl) (by kernel_rfl) (fun _ _ _ h => h) (yieldsIf_load_mid (by rfl) _ _ rfl _ _ rfl [Value.int IntKind.i64 k, Value.slice ao n c] _ (fun V hV => range_kept hrO hV (unhide HNO)) Tryz.underlying42 rfl info_obj) h0 ?_
  (try simp only [Act.put, pq1, pq2, pq3])
  refine wpAnyH_ready (rs := [6]) (by kernel_rfl) (by simp) ?_
  refine AllReadyH.cons (o := ⟨some 26, .call { callee := .value (.func 39), args := #[(.tmp 25)], argTypes := #[42] }, _, _, _, _⟩) rfl (fun K9 hK9 => ?_) AllReadyH.nil
  go_simp
  go_at_call 39
  refine (cc).mono ?_
  rintro e w4 ⟨a4, c4, rfl, hD4, g4a⟩
  have g4 := gb_none (some mb) (tn (gb_drew (gb_refl W3 none)) g4a)
  obtain ⟨w5, hrun, hfin⟩ := unhide HMU w4 a4 c4 g4a hD4
  clear g4a
  go_wp2_with fail
  refine hK9.out _ _ g4 (fun _ => ?_)
  clear hK9 K9
  (try simp only [Act.put, pq1, pq2, pq3])
  refine wpAnyH_ready (rs := [7]) (by kernel_rfl) (by simp) ?_
  refine AllReadyH.cons (o := ⟨none, .mapUpdate 76 (.tmp 23) (.tmp 24) (.tmp 26), _, _, _, _⟩) rfl (fun K9 hK9 => ?_) AllReadyH.nil
  go_simp
  refine hK9.out _ _ hfin.1 (fun _ => ?_)
  clear hK9 K9
  (try simp only [Act.put, pq1, pq2, pq3])
  refine wpAnyH_done (by kernel_rfl) ?_ _
  refine NoPanic.normal ?_
  obtain ⟨h5, hS5⟩ := hfin
  have hr5 : w5.rangeAt w3.heap.size 0 IB := range_kept hrI h5 (unhide HNI)
  have hB5 := ((unhide HB1).kept G3 (by simp)).kept h5 (unhide HN1)
  clear hrun cc hrI hrO hc3
  go_wp2_with (first
    | (refine wpList_load_mid rfl 33 _ rfl w3.heap.size 0 rfl IB _ hr5 Tryz.underlying33 rfl (unhide HII) ?_; clear hr5)
    | (refine wpList_store_row rfl 33 _ _ rfl (w.heap.size + 1) IB.toArray rfl rfl _ _ hB5 (unhide HII2) (by simpa using unhide HZI) (unhide HIO) ?_))
  refine bodyPost_ret (results_row_tmp rfl _ _ _ _ _ _ _ rfl (hB5.row IB) Tryz.underlying33 rfl (unhide HII2)) rfl ?_
  refine ⟨rfl, hS5.kept (gb_row (gb_refl _ (some (w.heap.size + 1))) _ (Or.inr rfl)) (fun e => ?_) (fun e => unhide HN1 e.symm) (fun x e => ?_), unhide HG w5 h5⟩
  · exact blk_nq hS5.blk hB5 (by decide) (by cases e; rfl)
  · cases e
    exact hB5.typ (by decide)

end Go.Proofs.YtlifmipnoeioaaaGreatDoor
