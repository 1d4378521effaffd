/- What waiting's put leaves: a commit of the set waits; what is none is left out. -/
import Derived.Test.YtlifmipnoeioaaaGreatDoorGHPush
import Derived.Test.YtlifmipnoeioaaaGreatDoorGRch
namespace Go.Proofs.YtlifmipnoeioaaaGreatDoor
open Go.RowKit

/-- A commit's time, where there is one of that name. -/
def comO (o : Option ObE) : Option Nat := match o with | some e => if (telC e.k e.d).1 = 0 then some (telC e.k e.d).2.time else none | .none => none
def comS (S : List ObE) (x : List UInt8) : Option Nat := comO (lkS S x)
theorem AtS.com {S : List ObE} {x : List UInt8} {k : Int} {d : List UInt8} (h : AtS S x k d) : comS S x = if (telC k d).1 = 0 then some (telC k d).2.time else none := by
  unfold comS comO
  rcases h with ⟨e, h1, rfl, rfl⟩ | ⟨h1, rfl, rfl⟩
  · rw [h1]
  · rw [h1]; rfl
theorem tel_tree (k : Int) (d : List UInt8) : (telC k d).2.tree.length = 32 := by
  unfold telC
  split
  · split
    · exact (readC_ok d).1
    · rfl
  · rfl
theorem built_com (x : List UInt8) (hx : x.length = 32) (t : Nat) (po : Option Addr) (n pc : Nat) : Tryz.prog.built 107 [(0, .agg (x.map bv).toArray), (1, .int .u64 (t : Int)), (2, .slice po n pc)] = some (x.map bv ++ [Value.int .u64 (t : Int), Value.slice po n pc]).toArray := by
  obtain ⟨a0, a1, a2, a3, a4, a5, a6, a7, a8, a9, a10, a11, a12, a13, a14, a15, a16, a17, a18, a19, a20, a21, a22, a23, a24, a25, a26, a27, a28, a29, a30, a31, rfl⟩ := list32 x hx
  kernel_rfl

theorem arr_new (V : World) (t : TypeId) (Z : Array Value) : ∃ W, W = V.alloc (.cells Z t) ∧ Blk W V.heap.size t Z.toList ∧ V.grownBy W none := by
  obtain ⟨W, a1, a2, a3⟩ := box_new V t Z.toList
  exact ⟨W, by simpa using a1, a2, a3⟩
/-- A block of names. -/
def IdB (w : World) (b : Nat) : Prop := ∃ cur m, w.heap[b]? = some (.cells cur 33 m)
theorem IdB.lt {w : World} {b : Nat} (h : IdB w b) : b < w.heap.size := by
  obtain ⟨_, _, h⟩ := h
  exact (Array.getElem?_eq_some_iff.1 h).1
theorem IdB.same {w a : World} {b : Nat} (h : IdB w b) (e : a.heap[b]? = w.heap[b]?) : IdB a b := by
  obtain ⟨c, m, h⟩ := h
  exact ⟨c, m, by rw [e]; exact h⟩
theorem IdB.none {w a : World} {b : Nat} (h : IdB w b) (g : w.grownBy a Option.none) : IdB a b := h.same (g.block b h.lt (by simp))
theorem IdB.blk {w : World} {b p : Nat} {t : TypeId} {cs : List Value} (h : IdB w b) (hB : Blk w p t cs) (ht : t ≠ 33) : b ≠ p := by
  rintro rfl
  obtain ⟨c, m, h⟩ := h
  unfold Blk at hB
  rw [h] at hB
  injection hB with hB
  injection hB with _ hB
  exact ht hB.symm
theorem IdB.map {w : World} {b m : Nat} {K : List (List UInt8 × Value)} (h : IdB w b) (hM : MapAt w m K) : b ≠ m := by
  rintro rfl
  obtain ⟨c, q, h⟩ := h
  obtain ⟨A, cl, h2, _⟩ := hM.is
  rw [h] at h2
  cases h2
theorem IdB.own {w : World} {b base k n : Nat} {t : TypeId} {v : Value} {xs : List Value} (h : IdB w b) (ho : w.ownsRow base t k v n xs) (ht : t ≠ 33) : some b ≠ v.ownBlock := by
  rcases ho.2 with ⟨rfl, _⟩ | ⟨g, cap, cur, rfl, _, hh, _⟩
  · intro e; cases e
  · intro e
    have : b = g := by simpa [Value.ownBlock] using e
    subst this
    obtain ⟨c, q, h⟩ := h
    rw [hh] at h
    injection h with h
    injection h with _ h
    exact ht h
theorem own_idb {w : World} {base n : Nat} {v : Value} {xs : List Value} (ho : w.ownsRow base 33 32 v n xs) {b : Nat} (e : v.ownBlock = some b) : IdB w b := by
  rcases ho.2 with ⟨rfl, _⟩ | ⟨g, cap, cur, rfl, _, hh, _⟩
  · cases e
  · have : g = b := by simpa [Value.ownBlock] using e
    subst this
    exact ⟨cur, _, hh⟩
/-- Names in a block that is as it was. -/
theorem Ids.same {w a : World} {ao : Option Addr} {c : Nat} {ps : List (List UInt8)} (h : Ids w ao c ps) (hb : ∀ ad, ao = some ad → a.heap[ad.block]? = w.heap[ad.block]?) : Ids a ao c ps :=
  ⟨h.zip, h.fits, h.most, h.shape, fun ad e i hi j u hu => by
    have := h.row ad e i hi j u hu
    rw [World.cell?_of_block (w := w) (w' := a) (a := ⟨ad.block, ad.off + i * 32 + j, Option.none⟩) (hb ad e)]
    exact this, h.ids⟩
/-- What waits leaves blocks of names alone. -/
theorem byPile_idb {w a : World} {base wb : Nat} {sp : Option Addr} {v : Value} {H : List CmR} (hW : WaitAt w base wb sp v H) (h : ByPile w a wb v) {b : Nat} (hb : IdB w b) : a.heap[b]? = w.heap[b]? :=
  h.block b hb.lt (hb.blk hW.blk (by decide)) (hb.own hW.own (by decide))

/-- What waiting's put leaves. -/
def Puts (S : List ObE) (w w' : World) (base wb : Nat) (sp : Option Addr) (v : Value) (H : List CmR) (x : List UInt8) : Prop :=
  ∃ v' H', WaitAt w' base wb sp v' H' ∧ HeapTo H' H'.length ∧ ByPile w w' wb v ∧ (∀ k, v'.ownBlock = some k → v.ownBlock = some k ∨ w.heap.size ≤ k) ∧
    ((comS S x = none ∧ H' = H) ∨ ∃ t po pc, comS S x = some t ∧ H'.Perm (H ++ [⟨x, t, prS S x, po, pc⟩]) ∧ Ids w' po pc (prS S x) ∧ ∀ ad, po = some ad → w.heap.size ≤ ad.block ∧ IdB w' ad.block)

theorem byPile_refl (w : World) (wb : Nat) (v : Value) : ByPile w w wb v := ⟨rfl, rfl, rfl, Nat.le_refl _, fun _ _ _ _ => rfl⟩
theorem byPile_gb0 {w a : World} {wb : Nat} {v : Value} (g : w.grownBy a none) : ByPile w a wb v := ⟨g.os, g.tape, g.output, g.size, fun k hk _ _ => g.block k hk (by simp)⟩
theorem byPile_tr {w a b : World} {wb : Nat} {v v' : Value} (h : ByPile w a wb v) (k : ByPile a b wb v') (hv : ∀ k, v'.ownBlock = some k → v.ownBlock = some k ∨ w.heap.size ≤ k) : ByPile w b wb v :=
  ⟨k.os.trans h.os, k.tape.trans h.tape, k.output.trans h.output, Nat.le_trans h.size k.size, fun i hi h1 h2 => by
    rw [k.block i (Nat.lt_of_lt_of_le hi h.size) h1 (fun e => by
      rcases hv i e.symm with h3 | h3
      · exact h2 h3.symm
      · omega), h.block i hi h1 h2]⟩

set_option maxRecDepth 100000 in
set_option maxHeartbeats 8000000 in
theorem wput_any (w : World) (base wb : Nat) (sp : Option Addr) (v : Value) (H : List CmR) (S : List ObE) (h : WaitAt w base wb sp v H) (hS : Sat w sp S) (hH : HeapTo H H.length) (hL : H.length ≤ 80000) (x : List UInt8) (hx : x.length = 32) :
    Calls Tryz.prog 54 #[.pointer (some ⟨wb, 0, none⟩), keyV x] w fun e w' => e = .returned (.tuple #[]) ∧ Puts S w w' base wb sp v H x := by
  obtain ⟨KB, hKB⟩ : ∃ KB, KB = x.map bv := ⟨_, rfl⟩
  have hKl : KB.length = 32 := by rw [hKB]; simp [hx]
  have hkv : keyV x = .agg KB.toArray := by rw [hKB]; rfl
  obtain ⟨W1, hW1, hB1, g1⟩ := box_new w 33 KB
  have hrK := blk_all hB1
  have hiK : (Tryz.prog.info? 33).map (·.size) = some KB.length := by rw [hKl]; exact info_id
  have hc := (h.none g1).cell.1
  obtain ⟨Z, hZ, hzv⟩ := zero_chg
  have HAT : Hid (∀ V, W1.grownBy V none → Calls Tryz.prog 40 #[.pointer sp, .agg KB.toArray] V fun e w' => ∃ k ao c d, e = .returned (.agg #[.int .i64 k, .slice ao d.length c]) ∧ AtS S x k d ∧ Dat V ao c d ∧ V.grownBy w' none) := fun V hV => by
    rw [← hkv]; exact at_any V sp S (hS.none (tn g1 hV)) x hx
  have HOK : Hid (SetS S) := hS.ok
  have HTR : Hid (∀ k d, (telC k d).2.tree.length = 32) := tel_tree
  have HLE : Hid (w.heap.size ≤ W1.heap.size) := g1.size
  have h0 : W1.grownBy W1.drew none := gb_drew (gb_refl _ _)
  have HX := hide hx
  have HH := hide h
  have HHP := hide hH
  have HG1 := hide g1
  have HKB := hide hKB
  have HIK := hide hiK
  have HW1 := hide hW1
  have HZ := hide hZ
  have HBK := hide hB1
  rw [hkv]
  clear hKB hKl hkv hW1 hB1 g1 hiK h hS hH hx hZ
  go_enter Tryz.func54, Tryz.ntmps54
  go_upto_region 1 with (rw [← unhide HW1])
  rename_i K hK
  have fin : ∀ (ws : World) (b4 : Nat) (k : Int) (ao : Option Addr) (c : Nat) (d : List UInt8) (y : Int) (po3 : Option Addr) (pc3 : Nat) (C : List Value), AtS S x k d → y = (telC k d).1 → C = chC (telC k d).2 po3 pc3 → W1.grownBy ws none → ws.ownsRow w.heap.size 33 32 (.slice po3 (telC k d).2.pars.length pc3) (telC k d).2.pars.length ((telC k d).2.pars.flatMap (·.map bv)) → Blk ws b4 72 C → W1.heap.size ≤ b4 →
      K { tmps := #[.pointer (some ⟨wb, 0, none⟩), .agg KB.toArray, undef, .pointer (some ⟨w.heap.size, 0, none⟩), .pointer (some ⟨b4, 0, none⟩), .int .i64 y, .tuple #[.agg C.toArray, .int .i64 y], .pointer (some ⟨wb, 0, none⟩), .pointer (some ⟨wb, 0, none⟩), .pointer (some ⟨wb, 0, none⟩), .pointer sp, .agg KB.toArray, .agg #[.int .i64 k, .slice ao d.length c], .tuple #[.agg C.toArray, .int .i64 y], .agg C.toArray, .int .i64 y, undef, undef, undef, undef, undef, undef, undef, undef, undef, undef, undef, undef], defers := [] } ws := by
    as_aux_lemma =>
      intro ws b4 k ao c d y po3 pc3 C hat hy hC hs ho hB hb
      refine hK _ _ ?_
      have hcom := hat.com
      have hpr := hat.pars
      have hWs := ((unhide HH).none (unhide HG1)).none hs
      have gws := tn (unhide HG1) hs
      rw [hpr] at ho
      have hc33 : ws.cell? ⟨b4, 33, none⟩ = some (.int .u64 ((telC k d).2.time : Int)) := by rw [hB.cell, hC]; exact (chC_at _ _ _ (unhide HTR k d)).2.1
      have hc32 : ws.cell? ⟨b4, 32, none⟩ = some (.slice po3 (prS S x).length pc3) := by rw [hB.cell, hC, (chC_at _ _ _ (unhide HTR k d)).1, hpr]
      obtain ⟨t, ht⟩ : ∃ t, t = (telC k d).2.time := ⟨_, rfl⟩
      rw [← ht] at hc33 hcom
      have hrx : ws.rangeAt w.heap.size 0 KB := blk_all ((unhide HBK).kept hs (by simp))
      rw [← hy] at hcom
      clear hK K hzv hc h0 hrK
      by_cases hy0 : y = 0
      · subst hy0
        rw [if_pos rfl] at hcom
        obtain ⟨r, hr⟩ : ∃ r : CmR, r = ⟨x, t, prS S x, po3, pc3⟩ := ⟨_, rfl⟩
        have cp := hpush_any ws base wb sp v H hWs r (by rw [hr]; exact unhide HX) (unhide HHP) (by omega)
        have hbt := built_com x (unhide HX) t po3 (prS S x).length pc3
        have hrc : cmC r = x.map bv ++ [Value.int .u64 (t : Int), Value.slice po3 (prS S x).length pc3] := by rw [hr]; rfl
        rw [← hrc, ← unhide HKB] at hbt
        obtain ⟨RC, hRC⟩ : ∃ RC, RC = (cmC r).toArray := ⟨_, rfl⟩
        rw [← hRC] at cp hbt
        obtain ⟨pn, hpn⟩ : ∃ n, n = (prS S x).length := ⟨_, rfl⟩
        rw [← hpn] at hc32 hbt
        have HBT := hide hbt
        have HR := hide hr
        have HCOM := hide hcom
        have HO := hide ho
        have HGW := hide gws
        clear hy hC ht hbt hr hrc hRC hpn hcom ho hB hat hpr hWs hs gws
        go_wp2_with (first
          | (refine wpList_load_mid rfl 33 _ rfl w.heap.size 0 rfl KB _ hrx Tryz.underlying33 rfl (unhide HIK) ?_; clear hrx)
          | (refine wpList_built rfl 107 _ rfl RC ?hbs ?_))
        case hbs => simpa using unhide HBT
        refine cp.mono ?_
        rintro e w9 ⟨rfl, v9, H9, q1, q2, q3, q4, q5⟩
        have HQ := hide (And.intro q1 (And.intro q2 (And.intro q3 (And.intro q4 q5))))
        clear cp q1 q2 q3 q4 q5
        go_wp2
        go_end0
        obtain ⟨q1, q2, q3, q4, q5⟩ := unhide HQ
        have gws := unhide HGW
        obtain ⟨ao5, c5, e5, hI⟩ := Ids.own (unhide HO) (fun y hy => (prS_wide S x).2 y hy)
        cases e5
        have hlo : ∀ ad, po3 = some ad → w.heap.size ≤ ad.block ∧ ad.block < ws.heap.size := fun ad e => (unhide HO).lt ad.block (by rw [e]; rfl)
        have hWs := ((unhide HH).none gws)
        have hib : ∀ ad, po3 = some ad → IdB ws ad.block := fun ad e => own_idb (unhide HO) (by rw [e]; rfl)
        have hbne : ∀ ad, po3 = some ad → w9.heap[ad.block]? = ws.heap[ad.block]? := fun ad e => byPile_idb hWs q4 (hib ad e)
        refine ⟨rfl, v9, H9, q1, q3, byPile_tr (byPile_gb0 gws) q4 (fun k hk => Or.inl hk), fun k hk => ?_, Or.inr ⟨t, po3, pc3, unhide HCOM, by rw [← unhide HR]; exact q2, ?_, fun ad e => ⟨(hlo ad e).1, (hib ad e).same (hbne ad e)⟩⟩⟩
        · rcases q5 k hk with h1 | h1
          · exact Or.inl h1
          · exact Or.inr (Nat.le_trans gws.size h1)
        · exact hI.same hbne
      · rw [if_neg hy0] at hcom
        have hyb : (y == 0) = false := by simpa using hy0
        have HF : Hid (Puts S w ws base wb sp v H x) := ⟨v, H, hWs, unhide HHP, byPile_gb0 gws, fun k hk => Or.inl hk, Or.inl ⟨hcom, rfl⟩⟩
        clear hy hC ht hcom ho hB hat hpr hWs hs gws hc32 hc33 hrx
        go_wp2
        go_end0
        exact ⟨rfl, unhide HF⟩
  have HFIN := hide fin
  clear fin hK
  refine wp_region_noPanic ?_
  refine wp_region_held_drew (S := fun V => W1.grownBy V none) (by kernel_rfl) h0 (fun _ => ?_)
  obtain ⟨WD, hWD⟩ : ∃ V, V = W1.drew := ⟨_, rfl⟩
  rw [← hWD]
  rw [← hWD] at h0
  clear hWD
  refine wpAnyH_take (i := 0) (oi := ⟨some 7, .move (.tmp 0), _, _, _, _⟩) (v := .pointer (some ⟨wb, 0, none⟩)) rfl (by kernel_rfl) (by kernel_rfl) (by kernel_rfl) (fun _ _ _ h => h) (Or.inl ⟨by rfl, fun V (hV : W1.grownBy V none) => by go_simp⟩) h0 ?_
  (try simp only [Act.put, pq1, pq2, pq3])
  refine wpAnyH_take (i := 4) (oi := ⟨some 11, .load 33 (.tmp 3), _, _, _, _⟩) (v := .agg KB.toArray) rfl (by kernel_rfl) (by kernel_rfl) (by kernel_rfl) (fun _ _ _ h => h) (yieldsIf_load_mid (by rfl) _ _ rfl _ _ rfl KB _ (fun V hV => range_kept hrK hV (by simp)) Tryz.underlying33 rfl (unhide HIK)) h0 ?_
  (try simp only [Act.put, pq1, pq2, pq3])
  refine wpAnyH_take (i := 1) (oi := ⟨some 8, .nilCheck (.tmp 7), _, _, _, _⟩) (v := .pointer (some ⟨wb, 0, none⟩)) rfl (by kernel_rfl) (by kernel_rfl) (by kernel_rfl) (fun _ _ _ h => h) (Or.inl ⟨by rfl, fun V (hV : W1.grownBy V none) => by go_simp⟩) h0 ?_
  (try simp only [Act.put, pq1, pq2, pq3])
  refine wpAnyH_take (i := 2) (oi := ⟨some 9, .fieldAddr 102 (.tmp 8) 0, _, _, _, _⟩) (v := .pointer (some ⟨wb, 0, none⟩)) rfl (by kernel_rfl) (by kernel_rfl) (by kernel_rfl) (fun _ _ _ h => h) (Or.inl ⟨by rfl, fun V (hV : W1.grownBy V none) => by go_simp⟩) h0 ?_
  (try simp only [Act.put, pq1, pq2, pq3])
  refine wpAnyH_take (i := 3) (oi := ⟨some 10, .load 24 (.tmp 9), _, _, _, _⟩) (v := .pointer sp) rfl (by kernel_rfl) (by kernel_rfl) (by kernel_rfl) (fun _ _ _ h => h) (Or.inl ⟨by rfl, fun V (hV : W1.grownBy V none) => by (have hv1 := hV.cell hc (by simp); go_simp)⟩) h0 ?_
  (try simp only [Act.put, pq1, pq2, pq3])
  refine wpAnyH_ready (rs := [5, 10]) (by kernel_rfl) (by simp) ?_
  refine AllReadyH.cons (o := ⟨some 12, .call { callee := .value (.func 40), args := #[(.tmp 10), (.tmp 11)], argTypes := #[24, 33] }, _, _, _, _⟩) rfl (fun K9 hK9 => ?_) (AllReadyH.cons (o := ⟨some 4, .alloc 72, _, _, _, _⟩) rfl (fun K9 hK9 => ?_) AllReadyH.nil)
  · go_simp
    go_at_call 40
    refine (unhide HAT WD h0).mono ?_
    rintro e wt ⟨k, ao, c, d, rfl, hat, hD, gt⟩
    go_wp2_with fail
    have hst := tn h0 gt
    have hDt := hD.none gt
    refine hK9.out _ _ hst (fun _ => ?_)
    clear hK9 K9
    (try simp only [Act.put, pq1, pq2, pq3])
    refine wpAnyH_ready (rs := [6, 10]) (by kernel_rfl) (by simp) ?_
    refine AllReadyH.cons (o := ⟨some 13, .call { callee := .value (.func 33), args := #[(.tmp 12)], argTypes := #[42] }, _, _, _, _⟩) rfl (fun K9 hK9 => ?_) (AllReadyH.cons (o := ⟨some 4, .alloc 72, _, _, _, _⟩) rfl (fun K9 hK9 => ?_) AllReadyH.nil)
    · go_simp
      go_at_call 33
      refine (changeOf_any wt k ao c d hDt.bts (by have := hat.small (unhide HOK); omega)).mono ?_
      rintro e wc ⟨po3, pc3, y, rfl, hy, ho3, gc⟩
      obtain ⟨C, hC⟩ : ∃ C, C = chC (telC k d).2 po3 pc3 := ⟨_, rfl⟩
      rw [← hC]
      have HC := hide hC
      have HY := hide hy
      clear hC hy
      go_wp2_with fail
      have hsc := tn hst gc
      have ho3c := own_low ho3 (Nat.le_trans (unhide HLE) (hst).size)
      clear ho3 gc
      refine hK9.out _ _ hsc (fun _ => ?_)
      clear hK9 K9
      (try simp only [Act.put, pq1, pq2, pq3])
      refine wpAnyH_take (i := 7) (oi := ⟨some 6, .move (.tmp 13), _, _, _, _⟩) (v := .tuple #[.agg C.toArray, .int .i64 y]) rfl (by kernel_rfl) (by kernel_rfl) (by kernel_rfl) (fun _ _ _ h => h) (Or.inl ⟨by rfl, fun V (hV : W1.grownBy V none) => by go_simp⟩) hsc ?_
      (try simp only [Act.put, pq1, pq2, pq3])
      refine wpAnyH_take (i := 8) (oi := ⟨some 14, .extract (.tmp 6) 0, _, _, _, _⟩) (v := .agg C.toArray) rfl (by kernel_rfl) (by kernel_rfl) (by kernel_rfl) (fun _ _ _ h => h) (Or.inl ⟨by rfl, fun V (hV : W1.grownBy V none) => by go_simp⟩) hsc ?_
      (try simp only [Act.put, pq1, pq2, pq3])
      refine wpAnyH_take (i := 9) (oi := ⟨some 15, .extract (.tmp 6) 1, _, _, _, _⟩) (v := .int .i64 y) rfl (by kernel_rfl) (by kernel_rfl) (by kernel_rfl) (fun _ _ _ h => h) (Or.inl ⟨by rfl, fun V (hV : W1.grownBy V none) => by go_simp⟩) hsc ?_
      (try simp only [Act.put, pq1, pq2, pq3])
      refine wpAnyH_ready (rs := [10]) (by kernel_rfl) (by simp) ?_
      refine AllReadyH.cons (o := ⟨some 4, .alloc 72, _, _, _, _⟩) rfl (fun K9 hK9 => ?_) AllReadyH.nil
      go_simp
      obtain ⟨wl, hwl, hB4, gl⟩ := arr_new wc 72 Z
      rw [← hwl]
      have hsl := tn hsc gl
      replace ho3c := own_id ho3c gl (fun _ e => by cases e)
      have hl4 : W1.heap.size ≤ wc.heap.size := (hsc).size
      refine hK9.out _ _ hsl (fun _ => ?_)
      clear hK9 K9 hwl
      (try simp only [Act.put, pq1, pq2, pq3])
      refine wpAnyH_ready (rs := [11]) (by kernel_rfl) (by simp) ?_
      refine AllReadyH.cons (o := ⟨none, .store 72 (.tmp 4) (.tmp 14), _, _, _, _⟩) rfl (fun K9 hK9 => ?_) AllReadyH.nil
      rw [if_pos (by rfl)]
      have hCl : C.length = 36 := by rw [unhide HC]; exact chC_len _ _ _ (unhide HTR k d)
      have hCo : C.toArray.all (·.oneCell') = true := by rw [unhide HC]; exact all_oneCell_toArray (chC_one _ _ _)
      have hiC : (Tryz.prog.info? 72).map (·.size) = some C.toArray.size := by rw [show C.toArray.size = 36 by simpa using hCl]; exact info_chg
      refine wp_store_row _ _ _ rfl (wc.heap.size) _ rfl rfl _ _ hB4 hiC (by have := unhide HZ; simp [this, hCl]) hCo ?_
      obtain ⟨ws, hws⟩ : ∃ V, V = wl.setRow (wc.heap.size) C.toArray := ⟨_, rfl⟩
      rw [← hws]
      have hs9 : W1.grownBy ws none := by rw [hws]; exact gb_row hsl _ (Or.inl hl4)
      have ho9 := own_row_id ho3c hB4 (by decide) C.toArray
      rw [← hws] at ho9
      have hB9 := hB4.row C
      rw [← hws] at hB9
      refine hK9.out _ _ hs9 (fun _ => ?_)
      clear hK9 K9 hws
      (try simp only [Act.put])
      refine wpAnyH_take (i := 12) (oi := ⟨some 5, .assign (.tmp 15), _, _, _, _⟩) (v := .int .i64 y) rfl (by kernel_rfl) (by kernel_rfl) (by kernel_rfl) (fun _ _ _ h => h) (Or.inl ⟨by rfl, fun V (hV : W1.grownBy V none) => by go_simp⟩) hs9 ?_
      (try simp only [Act.put, pq1, pq2, pq3])
      refine wpAnyH_done (by kernel_rfl) ?_ _
      refine NoPanic.normal ?_
      exact unhide HFIN ws (wc.heap.size) k ao c d y po3 pc3 C hat (unhide HY) (unhide HC) hs9 ho9 hB9 hl4
    · go_simp
      obtain ⟨wl, hwl, hB4, gl⟩ := arr_new wt 72 Z
      rw [← hwl]
      have hsl := tn hst gl
      replace hDt := hDt.none gl
      have hl4 : W1.heap.size ≤ wt.heap.size := (hst).size
      refine hK9.out _ _ hsl (fun _ => ?_)
      clear hK9 K9 hwl
      (try simp only [Act.put, pq1, pq2, pq3])
      refine wpAnyH_ready (rs := [6]) (by kernel_rfl) (by simp) ?_
      refine AllReadyH.cons (o := ⟨some 13, .call { callee := .value (.func 33), args := #[(.tmp 12)], argTypes := #[42] }, _, _, _, _⟩) rfl (fun K9 hK9 => ?_) AllReadyH.nil
      go_simp
      go_at_call 33
      refine (changeOf_any wl k ao c d hDt.bts (by have := hat.small (unhide HOK); omega)).mono ?_
      rintro e wc ⟨po3, pc3, y, rfl, hy, ho3, gc⟩
      obtain ⟨C, hC⟩ : ∃ C, C = chC (telC k d).2 po3 pc3 := ⟨_, rfl⟩
      rw [← hC]
      have HC := hide hC
      have HY := hide hy
      clear hC hy
      go_wp2_with fail
      have hsc := tn hsl gc
      replace hB4 := hB4.kept gc (by simp)
      have ho3c := own_low ho3 (Nat.le_trans (unhide HLE) (hsl).size)
      clear ho3 gc
      refine hK9.out _ _ hsc (fun _ => ?_)
      clear hK9 K9
      (try simp only [Act.put, pq1, pq2, pq3])
      refine wpAnyH_take (i := 7) (oi := ⟨some 6, .move (.tmp 13), _, _, _, _⟩) (v := .tuple #[.agg C.toArray, .int .i64 y]) rfl (by kernel_rfl) (by kernel_rfl) (by kernel_rfl) (fun _ _ _ h => h) (Or.inl ⟨by rfl, fun V (hV : W1.grownBy V none) => by go_simp⟩) hsc ?_
      (try simp only [Act.put, pq1, pq2, pq3])
      refine wpAnyH_take (i := 8) (oi := ⟨some 14, .extract (.tmp 6) 0, _, _, _, _⟩) (v := .agg C.toArray) rfl (by kernel_rfl) (by kernel_rfl) (by kernel_rfl) (fun _ _ _ h => h) (Or.inl ⟨by rfl, fun V (hV : W1.grownBy V none) => by go_simp⟩) hsc ?_
      (try simp only [Act.put, pq1, pq2, pq3])
      refine wpAnyH_take (i := 9) (oi := ⟨some 15, .extract (.tmp 6) 1, _, _, _, _⟩) (v := .int .i64 y) rfl (by kernel_rfl) (by kernel_rfl) (by kernel_rfl) (fun _ _ _ h => h) (Or.inl ⟨by rfl, fun V (hV : W1.grownBy V none) => by go_simp⟩) hsc ?_
      (try simp only [Act.put, pq1, pq2, pq3])
      refine wpAnyH_ready (rs := [11]) (by kernel_rfl) (by simp) ?_
      refine AllReadyH.cons (o := ⟨none, .store 72 (.tmp 4) (.tmp 14), _, _, _, _⟩) rfl (fun K9 hK9 => ?_) AllReadyH.nil
      rw [if_pos (by rfl)]
      have hCl : C.length = 36 := by rw [unhide HC]; exact chC_len _ _ _ (unhide HTR k d)
      have hCo : C.toArray.all (·.oneCell') = true := by rw [unhide HC]; exact all_oneCell_toArray (chC_one _ _ _)
      have hiC : (Tryz.prog.info? 72).map (·.size) = some C.toArray.size := by rw [show C.toArray.size = 36 by simpa using hCl]; exact info_chg
      refine wp_store_row _ _ _ rfl (wt.heap.size) _ rfl rfl _ _ hB4 hiC (by have := unhide HZ; simp [this, hCl]) hCo ?_
      obtain ⟨ws, hws⟩ : ∃ V, V = wc.setRow (wt.heap.size) C.toArray := ⟨_, rfl⟩
      rw [← hws]
      have hs9 : W1.grownBy ws none := by rw [hws]; exact gb_row hsc _ (Or.inl hl4)
      have ho9 := own_row_id ho3c hB4 (by decide) C.toArray
      rw [← hws] at ho9
      have hB9 := hB4.row C
      rw [← hws] at hB9
      refine hK9.out _ _ hs9 (fun _ => ?_)
      clear hK9 K9 hws
      (try simp only [Act.put])
      refine wpAnyH_take (i := 12) (oi := ⟨some 5, .assign (.tmp 15), _, _, _, _⟩) (v := .int .i64 y) rfl (by kernel_rfl) (by kernel_rfl) (by kernel_rfl) (fun _ _ _ h => h) (Or.inl ⟨by rfl, fun V (hV : W1.grownBy V none) => by go_simp⟩) hs9 ?_
      (try simp only [Act.put, pq1, pq2, pq3])
      refine wpAnyH_done (by kernel_rfl) ?_ _
      refine NoPanic.normal ?_
      exact unhide HFIN ws (wt.heap.size) k ao c d y po3 pc3 C hat (unhide HY) (unhide HC) hs9 ho9 hB9 hl4
  · go_simp
    obtain ⟨wl, hwl, hB4, gl⟩ := arr_new WD 72 Z
    rw [← hwl]
    have hsl := tn h0 gl
    have hl4 : W1.heap.size ≤ WD.heap.size := (h0).size
    refine hK9.out _ _ hsl (fun _ => ?_)
    clear hK9 K9 hwl
    (try simp only [Act.put, pq1, pq2, pq3])
    refine wpAnyH_ready (rs := [5]) (by kernel_rfl) (by simp) ?_
    refine AllReadyH.cons (o := ⟨some 12, .call { callee := .value (.func 40), args := #[(.tmp 10), (.tmp 11)], argTypes := #[24, 33] }, _, _, _, _⟩) rfl (fun K9 hK9 => ?_) AllReadyH.nil
    go_simp
    go_at_call 40
    refine (unhide HAT wl hsl).mono ?_
    rintro e wt ⟨k, ao, c, d, rfl, hat, hD, gt⟩
    go_wp2_with fail
    have hst := tn hsl gt
    replace hB4 := hB4.kept gt (by simp)
    have hDt := hD.none gt
    refine hK9.out _ _ hst (fun _ => ?_)
    clear hK9 K9
    (try simp only [Act.put, pq1, pq2, pq3])
    refine wpAnyH_ready (rs := [6]) (by kernel_rfl) (by simp) ?_
    refine AllReadyH.cons (o := ⟨some 13, .call { callee := .value (.func 33), args := #[(.tmp 12)], argTypes := #[42] }, _, _, _, _⟩) rfl (fun K9 hK9 => ?_) AllReadyH.nil
    go_simp
    go_at_call 33
    refine (changeOf_any wt k ao c d hDt.bts (by have := hat.small (unhide HOK); omega)).mono ?_
    rintro e wc ⟨po3, pc3, y, rfl, hy, ho3, gc⟩
    obtain ⟨C, hC⟩ : ∃ C, C = chC (telC k d).2 po3 pc3 := ⟨_, rfl⟩
    rw [← hC]
    have HC := hide hC
    have HY := hide hy
    clear hC hy
    go_wp2_with fail
    have hsc := tn hst gc
    replace hB4 := hB4.kept gc (by simp)
    have ho3c := own_low ho3 (Nat.le_trans (unhide HLE) (hst).size)
    clear ho3 gc
    refine hK9.out _ _ hsc (fun _ => ?_)
    clear hK9 K9
    (try simp only [Act.put, pq1, pq2, pq3])
    refine wpAnyH_take (i := 7) (oi := ⟨some 6, .move (.tmp 13), _, _, _, _⟩) (v := .tuple #[.agg C.toArray, .int .i64 y]) rfl (by kernel_rfl) (by kernel_rfl) (by kernel_rfl) (fun _ _ _ h => h) (Or.inl ⟨by rfl, fun V (hV : W1.grownBy V none) => by go_simp⟩) hsc ?_
    (try simp only [Act.put, pq1, pq2, pq3])
    refine wpAnyH_take (i := 8) (oi := ⟨some 14, .extract (.tmp 6) 0, _, _, _, _⟩) (v := .agg C.toArray) rfl (by kernel_rfl) (by kernel_rfl) (by kernel_rfl) (fun _ _ _ h => h) (Or.inl ⟨by rfl, fun V (hV : W1.grownBy V none) => by go_simp⟩) hsc ?_
    (try simp only [Act.put, pq1, pq2, pq3])
    refine wpAnyH_take (i := 9) (oi := ⟨some 15, .extract (.tmp 6) 1, _, _, _, _⟩) (v := .int .i64 y) rfl (by kernel_rfl) (by kernel_rfl) (by kernel_rfl) (fun _ _ _ h => h) (Or.inl ⟨by rfl, fun V (hV : W1.grownBy V none) => by go_simp⟩) hsc ?_
    (try simp only [Act.put, pq1, pq2, pq3])
    refine wpAnyH_ready (rs := [11]) (by kernel_rfl) (by simp) ?_
    refine AllReadyH.cons (o := ⟨none, .store 72 (.tmp 4) (.tmp 14), _, _, _, _⟩) rfl (fun K9 hK9 => ?_) AllReadyH.nil
    rw [if_pos (by rfl)]
    have hCl : C.length = 36 := by rw [unhide HC]; exact chC_len _ _ _ (unhide HTR k d)
    have hCo : C.toArray.all (·.oneCell') = true := by rw [unhide HC]; exact all_oneCell_toArray (chC_one _ _ _)
    have hiC : (Tryz.prog.info? 72).map (·.size) = some C.toArray.size := by rw [show C.toArray.size = 36 by simpa using hCl]; exact info_chg
    refine wp_store_row _ _ _ rfl (WD.heap.size) _ rfl rfl _ _ hB4 hiC (by have := unhide HZ; simp [this, hCl]) hCo ?_
    obtain ⟨ws, hws⟩ : ∃ V, V = wc.setRow (WD.heap.size) C.toArray := ⟨_, rfl⟩
    rw [← hws]
    have hs9 : W1.grownBy ws none := by rw [hws]; exact gb_row hsc _ (Or.inl hl4)
    have ho9 := own_row_id ho3c hB4 (by decide) C.toArray
    rw [← hws] at ho9
    have hB9 := hB4.row C
    rw [← hws] at hB9
    refine hK9.out _ _ hs9 (fun _ => ?_)
    clear hK9 K9 hws
    (try simp only [Act.put])
    refine wpAnyH_take (i := 12) (oi := ⟨some 5, .assign (.tmp 15), _, _, _, _⟩) (v := .int .i64 y) rfl (by kernel_rfl) (by kernel_rfl) (by kernel_rfl) (fun _ _ _ h => h) (Or.inl ⟨by rfl, fun V (hV : W1.grownBy V none) => by go_simp⟩) hs9 ?_
    (try simp only [Act.put, pq1, pq2, pq3])
    refine wpAnyH_done (by kernel_rfl) ?_ _
    refine NoPanic.normal ?_
    exact unhide HFIN ws (WD.heap.size) k ao c d y po3 pc3 C hat (unhide HY) (unhide HC) hs9 ho9 hB9 hl4
end Go.Proofs.YtlifmipnoeioaaaGreatDoor
