/- What box's own sealReal and openReal answer: the nonce that was drawn, and the cipher's text; and what the cipher opens. Of texts of at most 1000 bytes. -/
import Derived.Test.YtjckdgapefaokaaDoorBOpenI
import Derived.Test.YtjckdgapefaokaaDoorAOpen
namespace Go.Proofs.YtjckdgapefaokaaDoor
open Go.RowKit

theorem built_cont0 : Tryd.prog.built 83 [] = some (contC ⟨[], [], [], []⟩).toArray := by kernel_rfl
theorem info_nonce : (Tryd.prog.info? 64).map (·.size) = some 12 := by kernel_rfl
theorem zero_nonce (w : World) : (zeroValue 64).run Tryd.prog w = .ok (.agg ((List.replicate 12 (0 : UInt8)).map bv).toArray) w := by kernel_rfl

theorem at_nonce (ad : Addr) (n c : Nat) (hn : 12 ≤ n) (W : World) : (Instr.arrayAt 64 (.slice (some ad) n c)).run Tryd.prog W = .ok (.pointer (some ad)) W := by
  simp only [Instr.arrayAt, Sem.run_bind, run_underlying Tryd.underlying64, Result.andThen_ok]
  rw [if_neg (by omega)]
  rfl

theorem Blk.whole {w : World} {b : Nat} {t : TypeId} {cs : List Value} (h : Blk w b t cs) : w.rangeAt b 0 cs := by
  have := Blk.range (A := []) (vs := cs) (C := []) (w := w) (b := b) (t := t) (by simpa using h)
  simpa using this

set_option maxRecDepth 100000 in
set_option maxHeartbeats 2000000 in
theorem sealReal_any (u w : World) (bb bs bm : Nat) (B : BoxS) (k be tx : List UInt8) (bo xo : Option Addr) (cb cx : Nat) (h : BoxAt u w bb bs bm B) (gu : u.grownBy w none) (hT : Tabs u) (hC : CTab u) (hk : k.length = 32) (hb : ∀ V, By3 w V bb bs bm → Bts V bo cb be) (hx : ∀ V, By3 w V bb bs bm → Bts V xo cx tx)
    (hbe : be.length ≤ 1000) (ht : tx.length ≤ 1000) (hok : B.Ok) (hm : B.mode = 0) (hus : B.u ≤ 17592186044416) (hL : B.L.length ≤ 17592186044416) (t : List UInt8) (hs : t = told B.T B.u 12 ++ sealL k (told B.T B.u 12) be tx) :
    Calls Tryd.prog 28 #[.pointer (some ⟨bb, 0, none⟩), .agg (k.map bv).toArray, .slice bo be.length cb, .slice xo tx.length cx] w fun e w' => ∃ ao c, e = .returned (.slice ao t.length c) ∧ BtT w' ao c t ∧ BoxAt u w' bb bs bm { B with u := B.u + 12, L := B.L ++ [⟨t, [], [], []⟩] } ∧ By3 w w' bb bs bm := by
  obtain ⟨N, hN⟩ : ∃ N, N = told B.T B.u 12 := ⟨_, rfl⟩
  have hNl : N.length = 12 := by rw [hN]; exact told_length _ _ _
  obtain ⟨SE, hSE⟩ : ∃ SE, SE = sealL k N be tx := ⟨_, rfl⟩
  have hSl : SE.length = tx.length + 16 := by rw [hSE]; exact sealL_length _ _ _ _
  rw [← hN, ← hSE] at hs
  have htl : t.length = tx.length + 28 := by rw [hs, List.length_append, hNl, hSl]; omega
  have hi32 : (Tryd.prog.info? 37).map (·.size) = some (k.map bv).length := by rw [List.length_map, hk]; exact info_key
  have hi12 : (Tryd.prog.info? 64).map (·.size) = some (N.map bv).length := by rw [List.length_map, hNl]; exact info_nonce
  obtain ⟨W1, hW1⟩ : ∃ W1, W1 = w.alloc (.cells (k.map bv).toArray 37) := ⟨_, rfl⟩
  have g1 : w.grownBy W1 none := by rw [hW1]; exact gb_alloc (gb_refl _ _) _
  have hs1 : W1.heap.size = w.heap.size + 1 := by rw [hW1, World.size_alloc]
  have hK1 : Blk W1 w.heap.size 37 (k.map bv) := by rw [hW1]; exact Blk.new w _ _
  have h1 := h.none g1
  have hc1 := h1.cell.2.1
  have ctk := take_some W1 bs B.T B.u 12 h1.src.fit (hT.kept0 (tn gu g1)) (by omega) (by omega) (by omega)
  rw [← hN] at ctk
  have hneK : ∀ g, W1.heap.size ≤ g → some w.heap.size ≠ some g := fun g hg e => by cases e; omega
  have hbsl := h.src.blk.lt
  -- behind the draw
  have step2 : ∀ w2 g, W1.heap.size ≤ g → Blk w2 g 5 (N.map bv) → SrcAt w2 bs B.T (B.u + 12) → W1.grownBy w2 (some bs) →
      BoxAt u w2 bb bs bm { B with u := B.u + 12 } ∧ By3 w w2 bb bs bm ∧ w2.rangeAt w.heap.size 0 (k.map bv) ∧ Blk w2.drew g 5 (N.map bv) ∧
      (Calls Tryd.prog 23 #[.agg (k.map bv).toArray, .agg (N.map bv).toArray, .slice bo be.length cb, .slice xo tx.length cx] w2.drew fun e w3 => ∃ so sc, e = .returned (.slice so (tx.length + 16) sc) ∧ Bts w3 so sc SE ∧ w3.ownsRow w.heap.size 5 1 (.slice (some ⟨g, 0, none⟩) 12 12) 12 (N.map bv) ∧ w2.grownBy w3 (some g) ∧ BoxAt u w3 bb bs bm { B with u := B.u + 12 } ∧ By3 w w3 bb bs bm) := fun w2 g hg hG hS g2 => by
    have hB2 := h1.drawn g2 hS
    have b2 : By3 w w2 bb bs bm := ((By3.refl w bb bs bm).none g1).by g2 (fun x e => by cases e; exact Or.inr (Or.inr (Or.inl rfl)))
    have gD := gb_drew (gb_refl w2 none)
    have bD : By3 w w2.drew bb bs bm := b2.none gD
    refine ⟨hB2, b2, (hK1.kept g2 (fun e => by cases e; omega)).whole, hG, ?_⟩
    have := aead_ok.sealed w2.drew k N be tx bo xo cb cx hk hNl (hb _ bD) (hx _ bD) (by omega) (by omega) (hC.kept0 (by3_gb gu bD h.nb h.ns h.nm))
    rw [← hSE] at this
    refine this.mono fun e w3 ⟨v, he, ⟨so, sc, hv, hS3, _⟩, g3⟩ => ?_
    have gE : w2.grownBy w3 none := tn gD g3
    have hG3 := hG.kept gE (by simp)
    have ho := own_of_blk hG3 (base := w.heap.size) (by omega) (by rw [hNl]; decide)
    rw [hNl] at ho
    exact ⟨so, sc, by rw [he, hv, hSl], hS3, ho, gb_none _ gE, hB2.none gE, b2.none gE⟩
  have hfin : ∀ w3 g v4 w4, w3.ownsRow w.heap.size 5 1 (.slice (some ⟨g, 0, none⟩) 12 12) 12 (N.map bv) → BoxAt u w3 bb bs bm { B with u := B.u + 12 } → By3 w w3 bb bs bm → w4.ownsRow w.heap.size 5 1 v4 (12 + (tx.length + 16)) (N.map bv ++ SE.map bv) → w3.grownBy w4 (Value.slice (some ⟨g, 0, none⟩) 12 12).ownBlock →
      ∃ ao c, v4 = .slice ao (tx.length + 28) c ∧ BtT w4 ao c t ∧ BoxAt u w4 bb bs bm { B with u := B.u + 12 } ∧ By3 w w4 bb bs bm := fun w3 g v4 w4 hv3 hB3 b3 hv4 g4 => by
    rw [← List.map_append, ← hs] at hv4
    obtain ⟨ao, c, he, hB⟩ := own_btT hv4
    rw [htl] at he
    exact ⟨ao, c, he, hB, hB3.own hv3 g4, b3.by g4 (fun x e => Or.inl (hv3.lt x e).1)⟩
  have ckp : ∀ V ao c, BtT V ao c t → BoxAt u V bb bs bm { B with u := B.u + 12 } → By3 w V bb bs bm → Calls Tryd.prog 42 #[.pointer (some ⟨bb, 0, none⟩), .slice ao (tx.length + 28) c, contV ⟨[], [], [], []⟩] V fun e w' => e = .returned (.tuple #[]) ∧ BtT w' ao c t ∧ BoxAt u w' bb bs bm { B with u := B.u + 12, L := B.L ++ [⟨t, [], [], []⟩] } ∧ By3 w w' bb bs bm := fun V ao c ht hV gV => by
    have := keep_any u V bb bs bm { B with u := B.u + 12 } ⟨t, [], [], []⟩ ao c hV ht (fun y hy => by
      have hmem : y ∈ B.L := List.mem_of_find?_eq_some hy
      obtain ⟨e1, e2, e3⟩ := hok.real hm y hmem
      unfold contV contC
      rw [e1, e2, e3]) (by simp) (by simp only; omega)
    simp only [htl] at this
    exact this.mono fun e w' ⟨he, h5, g⟩ => ⟨he, ht.box hV g, h5, gV.trans g⟩
  obtain ⟨ZC, hZC⟩ : ∃ ZC : Array Value, ZC = (contC ⟨[], [], [], []⟩).toArray := ⟨_, rfl⟩
  have hbc := built_cont0
  rw [← hZC] at hbc
  simp only [show contV ⟨[], [], [], []⟩ = .agg ZC by rw [hZC]; rfl] at ckp
  obtain ⟨nb, hnb⟩ : ∃ n, n = be.length := ⟨_, rfl⟩
  obtain ⟨nx, hnx⟩ : ∃ n, n = tx.length := ⟨_, rfl⟩
  obtain ⟨ns, hns⟩ : ∃ n, n = tx.length + 16 := ⟨_, rfl⟩
  obtain ⟨nt, hnt⟩ : ∃ n, n = tx.length + 28 := ⟨_, rfl⟩
  have hnss : SE.length = ns := by omega
  have hnsl : 12 + ns ≤ 140737488355328 := by omega
  have hb0 : ∀ V, By3 w V bb bs bm → w.heap.size ≤ V.heap.size := fun V g => g.size
  rw [htl]
  simp only [← hns] at step2 hfin
  simp only [← hnt] at hfin ckp ⊢
  simp only [← hnb, ← hnx] at step2 ⊢
  have HW1 := hide hW1
  have HST := hide step2
  have HFIN := hide hfin
  have HKP := hide ckp
  have HBC := hide hbc
  have HNS := hide hnss
  have HNL := hide hnsl
  have HB0 := hide hb0
  have HNE := hide hneK
  clear hNl hSl htl hW1 g1 hK1 h1 hs1 hneK hbsl step2 hfin ckp hZC hbc hnb hnx hns hnt hnss hnsl h gu hT hC hk hb hx hbe ht hok hm hus hL hs hN hSE hb0
  go_enter Tryd.func28, Tryd.ntmps28
  go_upto_region 1 with fail
  rw [← unhide HW1]
  go_upto_region 2 with (go_at_call 22; refine ctk.mono ?_; rintro e w2 ⟨g, rfl, hg, hG, hS, g2⟩)
  clear ctk
  obtain ⟨hB2, b2, hrK, hGd, cse⟩ := unhide HST w2 g hg hG hS g2
  have HNK := hide (unhide HNE g hg)
  have hrN : w2.drew.rangeAt g 0 (N.map bv) := hGd.whole
  have hat := at_nonce ⟨g, 0, none⟩ 12 12 (by omega)
  have h0 : w2.grownBy w2.drew (some g) := gb_drew (gb_refl _ _)
  clear HST hG hS g2 hGd hB2 b2 HNE hg hc1
  refine wp_region_noPanic ?_
  refine wp_region_held_drew (S := fun V => w2.grownBy V (some g)) (by kernel_rfl) h0 (fun _ => ?_)
  refine wpAnyH_take (i := 0) (oi := { dst := some 16, op := Op.move (Operand.tmp 9), type := _, pos := _, after := _, guard := _ }) (v := .slice (some ⟨g, 0, none⟩) 12 12) rfl (by kernel_rfl) (by kernel_rfl) (by kernel_rfl) (fun _ _ _ h => h) (Or.inl ⟨by rfl, fun V (hV : w2.grownBy V (some g)) => by go_simp⟩) h0 ?_
  (try simp only [Act.put, List.setIfInBounds_toArray, List.set_cons_zero, List.set_cons_succ])
  refine wpAnyH_take (i := 1) (oi := { dst := some 17, op := Op.load 37 (Operand.tmp 5), type := _, pos := _, after := _, guard := _ }) (v := .agg (k.map bv).toArray) rfl (by kernel_rfl) (by kernel_rfl) (by kernel_rfl) (fun _ _ _ h => h) (yieldsIf_load_mid (by rfl) _ _ rfl _ _ rfl (k.map bv) _ (fun V hV => range_kept hrK hV (unhide HNK)) Tryd.underlying37 rfl hi32) h0 ?_
  (try simp only [Act.put, List.setIfInBounds_toArray, List.set_cons_zero, List.set_cons_succ])
  refine wpAnyH_take (i := 2) (oi := { dst := some 18, op := Op.move (Operand.tmp 9), type := _, pos := _, after := _, guard := _ }) (v := .slice (some ⟨g, 0, none⟩) 12 12) rfl (by kernel_rfl) (by kernel_rfl) (by kernel_rfl) (fun _ _ _ h => h) (Or.inl ⟨by rfl, fun V (hV : w2.grownBy V (some g)) => by go_simp⟩) h0 ?_
  (try simp only [Act.put, List.setIfInBounds_toArray, List.set_cons_zero, List.set_cons_succ])
  refine wpAnyH_take (i := 3) (oi := { dst := some 19, op := Op.sliceToArrayPointer 64 (Operand.tmp 18), type := _, pos := _, after := _, guard := _ }) (v := .pointer (some ⟨g, 0, none⟩)) rfl (by kernel_rfl) (by kernel_rfl) (by kernel_rfl) (fun _ _ _ h => h) (Or.inl ⟨by rfl, fun V (hV : w2.grownBy V (some g)) => by go_simp⟩) h0 ?_
  (try simp only [Act.put, List.setIfInBounds_toArray, List.set_cons_zero, List.set_cons_succ])
  refine wpAnyH_take (i := 5) (oi := { dst := some 21, op := Op.move (Operand.tmp 2), type := _, pos := _, after := _, guard := _ }) (v := .slice bo nb cb) rfl (by kernel_rfl) (by kernel_rfl) (by kernel_rfl) (fun _ _ _ h => h) (Or.inl ⟨by rfl, fun V (hV : w2.grownBy V (some g)) => by go_simp⟩) h0 ?_
  (try simp only [Act.put, List.setIfInBounds_toArray, List.set_cons_zero, List.set_cons_succ])
  refine wpAnyH_take (i := 6) (oi := { dst := some 22, op := Op.move (Operand.tmp 3), type := _, pos := _, after := _, guard := _ }) (v := .slice xo nx cx) rfl (by kernel_rfl) (by kernel_rfl) (by kernel_rfl) (fun _ _ _ h => h) (Or.inl ⟨by rfl, fun V (hV : w2.grownBy V (some g)) => by go_simp⟩) h0 ?_
  (try simp only [Act.put, List.setIfInBounds_toArray, List.set_cons_zero, List.set_cons_succ])
  refine wpAnyH_ready (rs := [4]) (by kernel_rfl) (by simp) ?_
  refine AllReadyH.cons (o := { dst := some 20, op := Op.load 64 (Operand.tmp 19), type := _, pos := _, after := _, guard := _ }) rfl (fun K9 hK9 => ?_) AllReadyH.nil
  rw [if_pos (by rfl)]
  refine wp_load_mid _ _ rfl g 0 rfl (N.map bv) _ hrN Tryd.underlying64 rfl hi12 ?_
  refine hK9.out _ _ h0 (fun _ => ?_)
  clear hK9 K9
  (try simp only [Act.put, List.setIfInBounds_toArray, List.set_cons_zero, List.set_cons_succ])
  refine wpAnyH_ready (rs := [7]) (by kernel_rfl) (by simp) ?_
  refine AllReadyH.cons (o := { dst := some 23, op := Op.call { callee := Callee.value (Operand.func 23), args := #[(Operand.tmp 17), (Operand.tmp 20), (Operand.tmp 21), (Operand.tmp 22)], argTypes := #[37, 64, 22, 22] }, type := _, pos := _, after := _, guard := _ }) rfl (fun K9 hK9 => ?_) AllReadyH.nil
  go_simp
  go_at_call 23
  refine (cse).mono ?_
  rintro e w3 ⟨so, sc, rfl, hS3, hv3, h3, hB3, b3⟩
  go_wp2_with fail
  refine hK9.out _ _ h3 (fun _ => ?_)
  clear hK9 K9
  (try simp only [Act.put, List.setIfInBounds_toArray, List.set_cons_zero, List.set_cons_succ])
  clear cse
  refine wpAnyH_ready (rs := [8]) (by kernel_rfl) (by simp) ?_
  refine AllReadyH.cons (o := { dst := some 24, op := Op.call { callee := Callee.builtin Builtin.append, args := #[(Operand.tmp 16), (Operand.tmp 23)], argTypes := #[22, 22] }, type := _, pos := _, after := _, guard := _ }) rfl (fun K9 hK9 => ?_) AllReadyH.nil
  refine step_append_bts (by rfl) _ _ rfl w.heap.size (.slice (some ⟨g, 0, none⟩) 12 12) 12 _ rfl hv3 so sc SE hS3 ns (unhide HNS).symm rfl (by rw [unhide HNS]; exact unhide HNL) (unhide HB0 w3 b3) ?_
  intro v4 w4 hv4 g4
  refine hK9.out _ _ (gb_trans h3 g4 (fun x e => Or.inr (by simpa [Value.ownBlock] using e))) (fun _ => ?_)
  clear hK9 K9
  (try simp only [Act.put, List.setIfInBounds_toArray, List.set_cons_zero, List.set_cons_succ])
  have gW4 := gb_trans h3 g4 (fun x e => Or.inr (by simpa [Value.ownBlock] using e))
  obtain ⟨ao, c, rfl, hs4, hB4, b4⟩ := unhide HFIN w3 g v4 w4 hv3 hB3 b3 (by rw [unhide HNS] at hv4; exact hv4) g4
  clear hv4 g4 hv3 hB3 b3 hS3 h3
  have h4 : w2.grownBy w4 (some g) := gW4
  refine wpAnyH_take (i := 9) (oi := { dst := some 10, op := Op.assign (Operand.tmp 24), type := _, pos := _, after := _, guard := _ }) (v := .slice ao nt c) rfl (by kernel_rfl) (by kernel_rfl) (by kernel_rfl) (fun _ _ _ h => h) (Or.inl ⟨by rfl, fun V (hV : w2.grownBy V (some g)) => by go_simp⟩) h4 ?_
  (try simp only [Act.put, List.setIfInBounds_toArray, List.set_cons_zero, List.set_cons_succ])
  refine wpAnyH_done (by kernel_rfl) ?_ _
  refine NoPanic.normal ?_
  clear h4 h0 hat hrN hrK HNK
  have ckp := unhide HKP w4 ao c hs4 hB4 b4
  clear HKP hB4 b4 HFIN
  go_wp2_with (first
    | (refine wpList_built rfl 83 _ rfl ZC ?hbc ?_)
    | (go_at_call 42; refine ckp.mono ?_; rintro e w5 ⟨rfl, hs5, hB5, b5⟩; clear ckp))
  case hbc => exact unhide HBC
  go_ret
  exact ⟨_, _, rfl, hs5, hB5, b5⟩

/-- What the cipher opens of a sealed text. -/
def opnR (k be s : List UInt8) : Option (List UInt8) := if s.length < 28 then none else if openB k (s.take 12) be (s.drop 12) then some (openL k (s.take 12) be (s.drop 12)) else none

set_option maxRecDepth 100000 in
set_option maxHeartbeats 2000000 in
theorem openReal_any (w : World) (k be s : List UInt8) (bo so : Option Addr) (cb cs : Nat) (hC : CTab w) (hk : k.length = 32) (hb : Bts w bo cb be) (hs : Bts w so cs s) (hbe : be.length ≤ 1000) (hsl : s.length ≤ 1500) :
    Calls Tryd.prog 32 #[.agg (k.map bv).toArray, .slice bo be.length cb, .slice so s.length cs] w fun e w' => ∃ xo xc, e = .returned (.tuple #[.slice xo (txtO (opnR k be s)).length xc, .bool (opnR k be s).isSome]) ∧ BtT w' xo xc (txtO (opnR k be s)) ∧ w.grownBy w' none := by
  by_cases h28 : s.length < 28
  · have ho : opnR k be s = none := by unfold opnR; rw [if_pos h28]
    rw [ho]
    obtain ⟨n, hn⟩ : ∃ n, n = s.length := ⟨_, rfl⟩
    rw [← hn] at h28 ⊢
    have hi : (n : Int) < 28 := by omega
    have hg : w.grownBy (w.alloc (.cells (k.map bv).toArray 37)) none := gb_alloc (gb_refl _ _) _
    clear hC hk hb hs hbe hsl h28 hn ho
    go_enter Tryd.func32, Tryd.ntmps32
    go_wp2
    go_ret2
    exact ⟨none, 0, rfl, ⟨Bts.nil _, fun _ e => by cases e⟩, hg⟩
  · obtain ⟨ad, rfl⟩ : ∃ ad, so = some ad := by
      cases so with
      | none => have := hs.zip rfl; omega
      | some ad => exact ⟨ad, rfl⟩
    have hsp := hs.shape ad rfl (by omega)
    obtain ⟨N, hN⟩ : ∃ N, N = s.take 12 := ⟨_, rfl⟩
    have hNl : N.length = 12 := by rw [hN, List.length_take]; omega
    obtain ⟨y, hy⟩ : ∃ y, y = s.drop 12 := ⟨_, rfl⟩
    have hyl : y.length = s.length - 12 := by rw [hy, List.length_drop]
    obtain ⟨ob, hob⟩ : ∃ ob, ob = openB k N be y := ⟨_, rfl⟩
    obtain ⟨X, hX⟩ : ∃ X, X = openL k N be y := ⟨_, rfl⟩
    have ho : txtO (opnR k be s) = X ∧ (opnR k be s).isSome = ob := by
      unfold opnR
      rw [if_neg h28, ← hN, ← hy, ← hob, ← hX]
      cases ob with
      | true => exact ⟨rfl, rfl⟩
      | false => exact ⟨by rw [hX, openL_no hob.symm]; rfl, rfl⟩
    rw [ho.1, ho.2]
    have hi32 : (Tryd.prog.info? 37).map (·.size) = some (k.map bv).length := by rw [List.length_map, hk]; exact info_key
    have hi12 : (Tryd.prog.info? 64).map (·.size) = some (N.map bv).length := by rw [List.length_map, hNl]; exact info_nonce
    obtain ⟨W1, hW1⟩ : ∃ W1, W1 = w.alloc (.cells (k.map bv).toArray 37) := ⟨_, rfl⟩
    have g1 : w.grownBy W1 none := by rw [hW1]; exact gb_alloc (gb_refl _ _) _
    have hs1 : W1.heap.size = w.heap.size + 1 := by rw [hW1, World.size_alloc]
    have hK1 : Blk W1 w.heap.size 37 (k.map bv) := by rw [hW1]; exact Blk.new w _ _
    obtain ⟨b, o, sp⟩ := ad
    simp only at hsp
    subst hsp
    have hr1 : W1.rangeAt b o (N.map bv) := by
      refine range_kept ?_ g1 (by simp)
      intro j v hj
      have hj' : j < N.length := by have := (List.getElem?_eq_some_iff.1 hj).1; simpa using this
      have := hs.cell ⟨b, o, none⟩ rfl j (by omega)
      rw [this, ← hj, List.getElem?_map, List.getElem?_eq_getElem hj']
      simp [hN, bv]
    obtain ⟨Z, hZ⟩ : ∃ Z : List UInt8, Z = List.replicate 12 0 := ⟨_, rfl⟩
    have hzv := zero_nonce
    rw [← hZ] at hzv
    have hZl : Z.length = 12 := by rw [hZ]; rfl
    obtain ⟨W2, hW2⟩ : ∃ W2, W2 = W1.alloc (.cells (Z.map bv).toArray 64) := ⟨_, rfl⟩
    have hZ2 : Blk W2 W1.heap.size 64 (Z.map bv) := by rw [hW2]; exact Blk.new W1 _ _
    have g2 : W1.grownBy W2 none := by rw [hW2]; exact gb_alloc (gb_refl _ _) _
    obtain ⟨W3, hW3⟩ : ∃ W3, W3 = W2.setRow W1.heap.size (N.map bv).toArray := ⟨_, rfl⟩
    have hN3 : Blk W3 W1.heap.size 64 (N.map bv) := by rw [hW3]; exact hZ2.row _
    have g3 : W1.grownBy W3 none := by rw [hW3]; exact gb_row g2 _ (Or.inl (Nat.le_refl _))
    have hrK := (hK1.kept g3 (by simp)).whole
    have hrN := hN3.whole
    have hsz12 : ((N.map bv).toArray).size = 12 := by simp [hNl]
    have hszZ : ((Z.map bv).toArray).size = 12 := by simp [hZl]
    have hto : ∀ W, (Instr.slice 22 (.slice (some ⟨b, o, none⟩) s.length cs) none (some (.int .i64 12)) none).run Tryd.prog W = .ok (.slice (some ⟨b, o, none⟩) 12 cs) W := fun W => slice_to (P := Tryd.prog) W 22 5 Tryd.underlying22 size_byte (some ⟨b, o, none⟩) s.length cs 12 (by have := hs.fits; omega)
    have hfr : ∀ W, (Instr.slice 22 (.slice (some ⟨b, o, none⟩) s.length cs) (some (.int .i64 12)) none none).run Tryd.prog W = .ok (.slice (cutA (some ⟨b, o, none⟩) cs 12) (s.length - 12) (cs - 12)) W := fun W => slice_from (P := Tryd.prog) W 22 5 Tryd.underlying22 size_byte (some ⟨b, o, none⟩) s.length cs 12 (by omega)
    obtain ⟨yo, hyo⟩ : ∃ yo, yo = cutA (some (⟨b, o, none⟩ : Addr)) cs 12 := ⟨_, rfl⟩
    rw [← hyo] at hfr
    have hat := at_nonce ⟨b, o, none⟩ 12 cs (by omega)
    have hcop : ∀ V, W3.grownBy V none → Calls Tryd.prog 47 #[.agg (k.map bv).toArray, .agg (N.map bv).toArray, .slice bo be.length cb, .slice yo (s.length - 12) (cs - 12)] V fun e w' => ∃ xo xc, e = .returned (.tuple #[.slice xo X.length xc, .bool ob]) ∧ BtT w' xo xc X ∧ W3.grownBy w' none := fun V gV => by
      have G := tn (tn g1 g3) gV
      have := aead_ok.opened V k N be y bo yo cb (cs - 12) hk hNl (hb.kept G (fun _ e => by cases e)) (by rw [hy, hyo]; exact (hs.drop 12 (by omega)).kept G (fun _ e => by cases e)) (by omega) (by omega) (hC.kept0 G)
      rw [hyl, ← hob, ← hX] at this
      refine this.mono fun e w' ⟨v, he, ⟨xo, xc, hv, hB, hn⟩, g⟩ => ⟨xo, xc, by rw [he, hv], ⟨hB, fun ad e => (hn ad e).2⟩, tn gV g⟩
    have cop := hcop W3.drew (gb_drew (gb_refl _ _))
    have h0 : W3.grownBy W3.drew none := gb_drew (gb_refl _ _)
    have hi28 : ¬ (s.length : Int) < 28 := by omega
    have hG := tn g1 g3
    obtain ⟨n, hn⟩ : ∃ n, n = s.length := ⟨_, rfl⟩
    obtain ⟨m, hmn⟩ : ∃ m, m = s.length - 12 := ⟨_, rfl⟩
    obtain ⟨cy, hcy⟩ : ∃ m, m = cs - 12 := ⟨_, rfl⟩
    obtain ⟨nb, hnb⟩ : ∃ m, m = be.length := ⟨_, rfl⟩
    obtain ⟨nx, hnx⟩ : ∃ m, m = X.length := ⟨_, rfl⟩
    rw [← hmn, ← hcy, ← hnb, ← hnx] at cop
    rw [← hmn, ← hcy] at hfr
    rw [← hn] at hto hfr hi28 ⊢
    rw [← hnb, ← hnx]
    obtain ⟨ad, had⟩ : ∃ ad : Addr, ad = ⟨b, o, none⟩ := ⟨_, rfl⟩
    have hW13 : (W1.alloc (.cells (Z.map bv).toArray 64)).setRow W1.heap.size (N.map bv).toArray = W3 := by rw [hW3, hW2]
    have HW1 := hide hW1
    have HW2 := hide hW2
    have HW3 := hide hW3
    have HSN := hide hsz12
    have HSZ := hide hszZ
    have HZ2 := hide hZ2
    have HRK := hide hrK
    have HRN := hide hrN
    have HR1 := hide hr1
    have HCOP := hide cop
    have HH0 := hide h0
    have HGG := hide hG
    have HI12 := hide hi12
    clear hC hk hb hs hbe hsl h28 hN hNl hy hyl hob hX ho hW1 g1 hs1 hK1 hr1 hZ hZl hW2 hZ2 g2 hW3 hN3 g3 hrK hrN hsz12 hszZ hyo hcop h0 hG hn hmn hcy hnb hnx hW13 cop hi12 had ad
    go_enter Tryd.func32, Tryd.ntmps32
    go_upto_region 3 with fail
    rw [← unhide HW1]
    go_upto_region 4 with (first
      | (refine wpList_load_mid rfl 64 _ rfl b o rfl (N.map bv) _ (unhide HR1) Tryd.underlying64 rfl (unhide HI12) ?_)
      | (rw [← unhide HW2]; refine wpList_store_row rfl 64 _ _ rfl W1.heap.size _ rfl rfl _ _ (unhide HZ2) ?_ ?_ ?_ ?_; (rw [unhide HSN]; exact info_nonce); (rw [unhide HSN, unhide HSZ]); (exact all_oneCell_toArray (bv_one _)); rw [← unhide HW3]))
    have hrK := unhide HRK
    have hrN := unhide HRN
    have cop := unhide HCOP
    have h0 := unhide HH0
    have hi12 := unhide HI12
    obtain ⟨ad, had⟩ : ∃ ad : Addr, ad = ⟨b, o, none⟩ := ⟨_, rfl⟩
    rw [← had] at hfr ⊢
    clear had hto hat HRK HRN HCOP HH0 HI12 HW1 HW2 HW3 HSN HSZ HZ2 HR1 hi28
    refine wp_region_noPanic ?_
    refine wp_region_held_drew (S := fun V => W3.grownBy V none) (by kernel_rfl) h0 (fun _ => ?_)
    refine wpAnyH_take (i := 0) (oi := { dst := some 16, op := Op.load 37 (Operand.tmp 3), type := _, pos := _, after := _, guard := _ }) (v := .agg (k.map bv).toArray) rfl (by kernel_rfl) (by kernel_rfl) (by kernel_rfl) (fun _ _ _ h => h) (yieldsIf_load_mid (by rfl) _ _ rfl _ _ rfl (k.map bv) _ (fun V hV => range_kept hrK hV (by simp)) Tryd.underlying37 rfl hi32) h0 ?_
    (try simp only [Act.put, List.setIfInBounds_toArray, List.set_cons_zero, List.set_cons_succ])
    refine wpAnyH_take (i := 1) (oi := { dst := some 17, op := Op.load 64 (Operand.tmp 8), type := _, pos := _, after := _, guard := _ }) (v := .agg (N.map bv).toArray) rfl (by kernel_rfl) (by kernel_rfl) (by kernel_rfl) (fun _ _ _ h => h) (yieldsIf_load_mid (by rfl) _ _ rfl _ _ rfl (N.map bv) _ (fun V hV => range_kept hrN hV (by simp)) Tryd.underlying64 rfl hi12) h0 ?_
    (try simp only [Act.put, List.setIfInBounds_toArray, List.set_cons_zero, List.set_cons_succ])
    refine wpAnyH_take (i := 2) (oi := { dst := some 18, op := Op.move (Operand.tmp 1), type := _, pos := _, after := _, guard := _ }) (v := .slice bo nb cb) rfl (by kernel_rfl) (by kernel_rfl) (by kernel_rfl) (fun _ _ _ h => h) (Or.inl ⟨by rfl, fun V (hV : W3.grownBy V none) => by go_simp⟩) h0 ?_
    (try simp only [Act.put, List.setIfInBounds_toArray, List.set_cons_zero, List.set_cons_succ])
    refine wpAnyH_take (i := 3) (oi := { dst := some 19, op := Op.move (Operand.tmp 2), type := _, pos := _, after := _, guard := _ }) (v := .slice (some ad) n cs) rfl (by kernel_rfl) (by kernel_rfl) (by kernel_rfl) (fun _ _ _ h => h) (Or.inl ⟨by rfl, fun V (hV : W3.grownBy V none) => by go_simp⟩) h0 ?_
    (try simp only [Act.put, List.setIfInBounds_toArray, List.set_cons_zero, List.set_cons_succ])
    refine wpAnyH_take (i := 4) (oi := { dst := some 20, op := Op.slice 22 (Operand.tmp 19) (some (Operand.const (Value.int IntKind.i64 12))) none none, type := _, pos := _, after := _, guard := _ }) (v := .slice yo m cy) rfl (by kernel_rfl) (by kernel_rfl) (by kernel_rfl) (fun _ _ _ h => h) (Or.inl ⟨by rfl, fun V (hV : W3.grownBy V none) => by go_simp⟩) h0 ?_
    (try simp only [Act.put, List.setIfInBounds_toArray, List.set_cons_zero, List.set_cons_succ])
    refine wpAnyH_ready (rs := [5]) (by kernel_rfl) (by simp) ?_
    refine AllReadyH.cons (o := { dst := some 21, op := Op.call { callee := Callee.value (Operand.func 47), args := #[(Operand.tmp 16), (Operand.tmp 17), (Operand.tmp 18), (Operand.tmp 20)], argTypes := #[37, 64, 22, 22] }, type := _, pos := _, after := _, guard := _ }) rfl (fun K9 hK9 => ?_) AllReadyH.nil
    go_simp
    go_at_call 47
    refine (cop).mono ?_
    rintro e w4 ⟨xo, xc, rfl, hX4, h4⟩
    go_wp2_with fail
    refine hK9.out _ _ h4 (fun _ => ?_)
    clear hK9 K9
    (try simp only [Act.put, List.setIfInBounds_toArray, List.set_cons_zero, List.set_cons_succ])
    refine wpAnyH_take (i := 6) (oi := { dst := some 22, op := Op.extract (Operand.tmp 21) 0, type := _, pos := _, after := _, guard := _ }) (v := .slice xo nx xc) rfl (by kernel_rfl) (by kernel_rfl) (by kernel_rfl) (fun _ _ _ h => h) (Or.inl ⟨by rfl, fun V (hV : W3.grownBy V none) => by go_simp⟩) h4 ?_
    (try simp only [Act.put, List.setIfInBounds_toArray, List.set_cons_zero, List.set_cons_succ])
    refine wpAnyH_take (i := 7) (oi := { dst := some 23, op := Op.extract (Operand.tmp 21) 1, type := _, pos := _, after := _, guard := _ }) (v := .bool ob) rfl (by kernel_rfl) (by kernel_rfl) (by kernel_rfl) (fun _ _ _ h => h) (Or.inl ⟨by rfl, fun V (hV : W3.grownBy V none) => by go_simp⟩) h4 ?_
    (try simp only [Act.put, List.setIfInBounds_toArray, List.set_cons_zero, List.set_cons_succ])
    refine wpAnyH_take (i := 8) (oi := { dst := some 6, op := Op.assign (Operand.tmp 22), type := _, pos := _, after := _, guard := _ }) (v := .slice xo nx xc) rfl (by kernel_rfl) (by kernel_rfl) (by kernel_rfl) (fun _ _ _ h => h) (Or.inl ⟨by rfl, fun V (hV : W3.grownBy V none) => by go_simp⟩) h4 ?_
    (try simp only [Act.put, List.setIfInBounds_toArray, List.set_cons_zero, List.set_cons_succ])
    refine wpAnyH_take (i := 9) (oi := { dst := some 7, op := Op.assign (Operand.tmp 23), type := _, pos := _, after := _, guard := _ }) (v := .bool ob) rfl (by kernel_rfl) (by kernel_rfl) (by kernel_rfl) (fun _ _ _ h => h) (Or.inl ⟨by rfl, fun V (hV : W3.grownBy V none) => by go_simp⟩) h4 ?_
    (try simp only [Act.put, List.setIfInBounds_toArray, List.set_cons_zero, List.set_cons_succ])
    refine wpAnyH_done (by kernel_rfl) ?_ _
    refine NoPanic.normal ?_
    go_wp2
    go_ret2
    exact ⟨_, _, rfl, hX4, tn (unhide HGG) h4⟩

end Go.Proofs.YtjckdgapefaokaaDoor
