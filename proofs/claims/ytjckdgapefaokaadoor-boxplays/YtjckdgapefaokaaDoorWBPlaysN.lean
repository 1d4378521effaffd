/- What box's own sealReal and openReal answer: the nonce that was drawn, and the cipher's text; and what the cipher opens. Of texts of at most 1000 bytes. -/
import Derived.Test.YtjckdgapefaokaaDoorBOpenI
import Derived.Test.YtjckdgapefaokaaDoorAOpen
import Derived.Test.YtjckdgapefaokaaDoorBOne
import Derived.Test.YtjckdgapefaokaaDoorBActs
namespace Go.Proofs.YtjckdgapefaokaaDoor
open Go.RowKit

theorem built_cont0 : Tryd.prog.built 83 [] = some (contC ⟨[], [], [], []⟩).toArray := by kernel_rfl
theorem info_nonce : (Tryd.prog.info? 64).map (·.size) = some 12 := by kernel_rfl
theorem zero_nonce (w : World) : (zeroValue 64).run Tryd.prog w = .ok (.agg ((List.replicate 12 (0 : UInt8)).map bv).toArray) w := by kernel_rfl

theorem at_nonce (ad : Addr) (n c : Nat) (hn : 12 ≤ n) (W : World) : (Instr.arrayAt 64 (.slice (some ad) n c)).run Tryd.prog W = .ok (.pointer (some ad)) W := by
  simp only [Instr.arrayAt, Sem.run_bind, run_underlying Tryd.underlying64, Result.andThen_ok]
  rw [if_neg (by omega)]
  rfl

theorem Blk.whole {w : World} {b : Nat} {t : TypeId} {cs : List Value} (h : Blk w b t cs) : w.rangeAt b 0 cs := by
  have := Blk.range (A := []) (vs := cs) (C := []) (w := w) (b := b) (t := t) (by simpa using h)
  simpa using this

set_option maxRecDepth 100000 in
set_option maxHeartbeats 2000000 in
theorem sealReal_any (u w : World) (bb bs bm : Nat) (B : BoxS) (k be tx : List UInt8) (bo xo : Option Addr) (cb cx : Nat) (h : BoxAt u w bb bs bm B) (gu : u.grownBy w none) (hT : Tabs u) (hC : CTab u) (hk : k.length = 32) (hb : ∀ V, By3 w V bb bs bm → Bts V bo cb be) (hx : ∀ V, By3 w V bb bs bm → Bts V xo cx tx)
    (hbe : be.length ≤ 1000) (ht : tx.length ≤ 1000) (hok : B.Ok) (hm : B.mode = 0) (hus : B.u ≤ 17592186044416) (hL : B.L.length ≤ 17592186044416) (t : List UInt8) (hs : t = told B.T B.u 12 ++ sealL k (told B.T B.u 12) be tx) :
    Calls Tryd.prog 28 #[.pointer (some ⟨bb, 0, none⟩), .agg (k.map bv).toArray, .slice bo be.length cb, .slice xo tx.length cx] w fun e w' => ∃ ao c, e = .returned (.slice ao t.length c) ∧ BtT w' ao c t ∧ BoxAt u w' bb bs bm { B with u := B.u + 12, L := B.L ++ [⟨t, [], [], []⟩] } ∧ By3 w w' bb bs bm := by
  obtain ⟨N, hN⟩ : ∃ N, N = told B.T B.u 12 := ⟨_, rfl⟩
  have hNl : N.length = 12 := by rw [hN]; exact told_length _ _ _
  obtain ⟨SE, hSE⟩ : ∃ SE, SE = sealL k N be tx := ⟨_, rfl⟩
  have hSl : SE.length = tx.length + 16 := by rw [hSE]; exact sealL_length _ _ _ _
  rw [← hN, ← hSE] at hs
  have htl : t.length = tx.length + 28 := by rw [hs, List.length_append, hNl, hSl]; omega
  have hi32 : (Tryd.prog.info? 37).map (·.size) = some (k.map bv).length := by rw [List.length_map, hk]; exact info_key
  have hi12 : (Tryd.prog.info? 64).map (·.size) = some (N.map bv).length := by rw [List.length_map, hNl]; exact info_nonce
  obtain ⟨W1, hW1⟩ : ∃ W1, W1 = w.alloc (.cells (k.map bv).toArray 37) := ⟨_, rfl⟩
  have g1 : w.grownBy W1 none := by rw [hW1]; exact gb_alloc (gb_refl _ _) _
  have hs1 : W1.heap.size = w.heap.size + 1 := by rw [hW1, World.size_alloc]
  have hK1 : Blk W1 w.heap.size 37 (k.map bv) := by rw [hW1]; exact Blk.new w _ _
  have h1 := h.none g1
  have hc1 := h1.cell.2.1
  have ctk := take_some W1 bs B.T B.u 12 h1.src.fit (hT.kept0 (tn gu g1)) (by omega) (by omega) (by omega)
  rw [← hN] at ctk
  have hneK : ∀ g, W1.heap.size ≤ g → some w.heap.size ≠ some g := fun g hg e => by cases e; omega
  have hbsl := h.src.blk.lt
  -- behind the draw
  have step2 : ∀ w2 g, W1.heap.size ≤ g → Blk w2 g 5 (N.map bv) → SrcAt w2 bs B.T (B.u + 12) → W1.grownBy w2 (some bs) →
      BoxAt u w2 bb bs bm { B with u := B.u + 12 } ∧ By3 w w2 bb bs bm ∧ w2.rangeAt w.heap.size 0 (k.map bv) ∧ Blk w2.drew g 5 (N.map bv) ∧
      (Calls Tryd.prog 23 #[.agg (k.map bv).toArray, .agg (N.map bv).toArray, .slice bo be.length cb, .slice xo tx.length cx] w2.drew fun e w3 => ∃ so sc, e = .returned (.slice so (tx.length + 16) sc) ∧ Bts w3 so sc SE ∧ w3.ownsRow w.heap.size 5 1 (.slice (some ⟨g, 0, none⟩) 12 12) 12 (N.map bv) ∧ w2.grownBy w3 (some g) ∧ BoxAt u w3 bb bs bm { B with u := B.u + 12 } ∧ By3 w w3 bb bs bm) := fun w2 g hg hG hS g2 => by
    have hB2 := h1.drawn g2 hS
    have b2 : By3 w w2 bb bs bm := ((By3.refl w bb bs bm).none g1).by g2 (fun x e => by cases e; exact Or.inr (Or.inr (Or.inl rfl)))
    have gD := gb_drew (gb_refl w2 none)
    have bD : By3 w w2.drew bb bs bm := b2.none gD
    refine ⟨hB2, b2, (hK1.kept g2 (fun e => by cases e; omega)).whole, hG, ?_⟩
    have := aead_ok.sealed w2.drew k N be tx bo xo cb cx hk hNl (hb _ bD) (hx _ bD) (by omega) (by omega) (hC.kept0 (by3_gb gu bD h.nb h.ns h.nm))
    rw [← hSE] at this
    refine this.mono fun e w3 ⟨v, he, ⟨so, sc, hv, hS3, _⟩, g3⟩ => ?_
    have gE : w2.grownBy w3 none := tn gD g3
    have hG3 := hG.kept gE (by simp)
    have ho := own_of_blk hG3 (base := w.heap.size) (by omega) (by rw [hNl]; decide)
    rw [hNl] at ho
    exact ⟨so, sc, by rw [he, hv, hSl], hS3, ho, gb_none _ gE, hB2.none gE, b2.none gE⟩
  have hfin : ∀ w3 g v4 w4, w3.ownsRow w.heap.size 5 1 (.slice (some ⟨g, 0, none⟩) 12 12) 12 (N.map bv) → BoxAt u w3 bb bs bm { B with u := B.u + 12 } → By3 w w3 bb bs bm → w4.ownsRow w.heap.size 5 1 v4 (12 + (tx.length + 16)) (N.map bv ++ SE.map bv) → w3.grownBy w4 (Value.slice (some ⟨g, 0, none⟩) 12 12).ownBlock →
      ∃ ao c, v4 = .slice ao (tx.length + 28) c ∧ BtT w4 ao c t ∧ BoxAt u w4 bb bs bm { B with u := B.u + 12 } ∧ By3 w w4 bb bs bm := fun w3 g v4 w4 hv3 hB3 b3 hv4 g4 => by
    rw [← List.map_append, ← hs] at hv4
    obtain ⟨ao, c, he, hB⟩ := own_btT hv4
    rw [htl] at he
    exact ⟨ao, c, he, hB, hB3.own hv3 g4, b3.by g4 (fun x e => Or.inl (hv3.lt x e).1)⟩
  have ckp : ∀ V ao c, BtT V ao c t → BoxAt u V bb bs bm { B with u := B.u + 12 } → By3 w V bb bs bm → Calls Tryd.prog 42 #[.pointer (some ⟨bb, 0, none⟩), .slice ao (tx.length + 28) c, contV ⟨[], [], [], []⟩] V fun e w' => e = .returned (.tuple #[]) ∧ BtT w' ao c t ∧ BoxAt u w' bb bs bm { B with u := B.u + 12, L := B.L ++ [⟨t, [], [], []⟩] } ∧ By3 w w' bb bs bm := fun V ao c ht hV gV => by
    have := keep_any u V bb bs bm { B with u := B.u + 12 } ⟨t, [], [], []⟩ ao c hV ht (fun y hy => by
      have hmem : y ∈ B.L := List.mem_of_find?_eq_some hy
      obtain ⟨e1, e2, e3⟩ := hok.real hm y hmem
      unfold contV contC
      rw [e1, e2, e3]) (by simp) (by simp only; omega)
    simp only [htl] at this
    exact this.mono fun e w' ⟨he, h5, g⟩ => ⟨he, ht.box hV g, h5, gV.trans g⟩
  obtain ⟨ZC, hZC⟩ : ∃ ZC : Array Value, ZC = (contC ⟨[], [], [], []⟩).toArray := ⟨_, rfl⟩
  have hbc := built_cont0
  rw [← hZC] at hbc
  simp only [show contV ⟨[], [], [], []⟩ = .agg ZC by rw [hZC]; rfl] at ckp
  obtain ⟨nb, hnb⟩ : ∃ n, n = be.length := ⟨_, rfl⟩
  obtain ⟨nx, hnx⟩ : ∃ n, n = tx.length := ⟨_, rfl⟩
  obtain ⟨ns, hns⟩ : ∃ n, n = tx.length + 16 := ⟨_, rfl⟩
  obtain ⟨nt, hnt⟩ : ∃ n, n = tx.length + 28 := ⟨_, rfl⟩
  have hnss : SE.length = ns := by omega
  have hnsl : 12 + ns ≤ 140737488355328 := by omega
  have hb0 : ∀ V, By3 w V bb bs bm → w.heap.size ≤ V.heap.size := fun V g => g.size
  rw [htl]
  simp only [← hns] at step2 hfin
  simp only [← hnt] at hfin ckp ⊢
  simp only [← hnb, ← hnx] at step2 ⊢
  have HW1 := hide hW1
  have HST := hide step2
  have HFIN := hide hfin
  have HKP := hide ckp
  have HBC := hide hbc
  have HNS := hide hnss
  have HNL := hide hnsl
  have HB0 := hide hb0
  have HNE := hide hneK
  clear hNl hSl htl hW1 g1 hK1 h1 hs1 hneK hbsl step2 hfin ckp hZC hbc hnb hnx hns hnt hnss hnsl h gu hT hC hk hb hx hbe ht hok hm hus hL hs hN hSE hb0
  go_enter Tryd.func28, Tryd.ntmps28
  go_upto_region 1 with fail
  rw [← unhide HW1]
  go_upto_region 2 with (go_at_call 22; refine ctk.mono ?_; rintro e w2 ⟨g, rfl, hg, hG, hS, g2⟩)
  clear ctk
  obtain ⟨hB2, b2, hrK, hGd, cse⟩ := unhide HST w2 g hg hG hS g2
  have HNK := hide (unhide HNE g hg)
  have hrN : w2.drew.rangeAt g 0 (N.map bv) := hGd.whole
  have hat := at_nonce ⟨g, 0, none⟩ 12 12 (by omega)
  have h0 : w2.grownBy w2.drew (some g) := gb_drew (gb_refl _ _)
  clear HST hG hS g2 hGd hB2 b2 HNE hg hc1
  refine wp_region_noPanic ?_
  refine wp_region_held_drew (S := fun V => w2.grownBy V (some g)) (by kernel_rfl) h0 (fun _ => ?_)
  refine wpAnyH_take (i := 0) (oi := { dst := some 16, op := Op.move (Operand.tmp 9), type := _, pos := _, after := _, guard := _ }) (v := .slice (some ⟨g, 0, none⟩) 12 12) rfl (by kernel_rfl) (by kernel_rfl) (by kernel_rfl) (fun _ _ _ h => h) (Or.inl ⟨by rfl, fun V (hV : w2.grownBy V (some g)) => by go_simp⟩) h0 ?_
  (try simp only [Act.put, List.setIfInBounds_toArray, List.set_cons_zero, List.set_cons_succ])
  refine wpAnyH_take (i := 1) (oi := { dst := some 17, op := Op.load 37 (Operand.tmp 5), type := _, pos := _, after := _, guard := _ }) (v := .agg (k.map bv).toArray) rfl (by kernel_rfl) (by kernel_rfl) (by kernel_rfl) (fun _ _ _ h => h) (yieldsIf_load_mid (by rfl) _ _ rfl _ _ rfl (k.map bv) _ (fun V hV => range_kept hrK hV (unhide HNK)) Tryd.underlying37 rfl hi32) h0 ?_
  (try simp only [Act.put, List.setIfInBounds_toArray, List.set_cons_zero, List.set_cons_succ])
  refine wpAnyH_take (i := 2) (oi := { dst := some 18, op := Op.move (Operand.tmp 9), type := _, pos := _, after := _, guard := _ }) (v := .slice (some ⟨g, 0, none⟩) 12 12) rfl (by kernel_rfl) (by kernel_rfl) (by kernel_rfl) (fun _ _ _ h => h) (Or.inl ⟨by rfl, fun V (hV : w2.grownBy V (some g)) => by go_simp⟩) h0 ?_
  (try simp only [Act.put, List.setIfInBounds_toArray, List.set_cons_zero, List.set_cons_succ])
  refine wpAnyH_take (i := 3) (oi := { dst := some 19, op := Op.sliceToArrayPointer 64 (Operand.tmp 18), type := _, pos := _, after := _, guard := _ }) (v := .pointer (some ⟨g, 0, none⟩)) rfl (by kernel_rfl) (by kernel_rfl) (by kernel_rfl) (fun _ _ _ h => h) (Or.inl ⟨by rfl, fun V (hV : w2.grownBy V (some g)) => by go_simp⟩) h0 ?_
  (try simp only [Act.put, List.setIfInBounds_toArray, List.set_cons_zero, List.set_cons_succ])
  refine wpAnyH_take (i := 5) (oi := { dst := some 21, op := Op.move (Operand.tmp 2), type := _, pos := _, after := _, guard := _ }) (v := .slice bo nb cb) rfl (by kernel_rfl) (by kernel_rfl) (by kernel_rfl) (fun _ _ _ h => h) (Or.inl ⟨by rfl, fun V (hV : w2.grownBy V (some g)) => by go_simp⟩) h0 ?_
  (try simp only [Act.put, List.setIfInBounds_toArray, List.set_cons_zero, List.set_cons_succ])
  refine wpAnyH_take (i := 6) (oi := { dst := some 22, op := Op.move (Operand.tmp 3), type := _, pos := _, after := _, guard := _ }) (v := .slice xo nx cx) rfl (by kernel_rfl) (by kernel_rfl) (by kernel_rfl) (fun _ _ _ h => h) (Or.inl ⟨by rfl, fun V (hV : w2.grownBy V (some g)) => by go_simp⟩) h0 ?_
  (try simp only [Act.put, List.setIfInBounds_toArray, List.set_cons_zero, List.set_cons_succ])
  refine wpAnyH_ready (rs := [4]) (by kernel_rfl) (by simp) ?_
  refine AllReadyH.cons (o := { dst := some 20, op := Op.load 64 (Operand.tmp 19), type := _, pos := _, after := _, guard := _ }) rfl (fun K9 hK9 => ?_) AllReadyH.nil
  rw [if_pos (by rfl)]
  refine wp_load_mid _ _ rfl g 0 rfl (N.map bv) _ hrN Tryd.underlying64 rfl hi12 ?_
  refine hK9.out _ _ h0 (fun _ => ?_)
  clear hK9 K9
  (try simp only [Act.put, List.setIfInBounds_toArray, List.set_cons_zero, List.set_cons_succ])
  refine wpAnyH_ready (rs := [7]) (by kernel_rfl) (by simp) ?_
  refine AllReadyH.cons (o := { dst := some 23, op := Op.call { callee := Callee.value (Operand.func 23), args := #[(Operand.tmp 17), (Operand.tmp 20), (Operand.tmp 21), (Operand.tmp 22)], argTypes := #[37, 64, 22, 22] }, type := _, pos := _, after := _, guard := _ }) rfl (fun K9 hK9 => ?_) AllReadyH.nil
  go_simp
  go_at_call 23
  refine (cse).mono ?_
  rintro e w3 ⟨so, sc, rfl, hS3, hv3, h3, hB3, b3⟩
  go_wp2_with fail
  refine hK9.out _ _ h3 (fun _ => ?_)
  clear hK9 K9
  (try simp only [Act.put, List.setIfInBounds_toArray, List.set_cons_zero, List.set_cons_succ])
  clear cse
  refine wpAnyH_ready (rs := [8]) (by kernel_rfl) (by simp) ?_
  refine AllReadyH.cons (o := { dst := some 24, op := Op.call { callee := Callee.builtin Builtin.append, args := #[(Operand.tmp 16), (Operand.tmp 23)], argTypes := #[22, 22] }, type := _, pos := _, after := _, guard := _ }) rfl (fun K9 hK9 => ?_) AllReadyH.nil
  refine step_append_bts (by rfl) _ _ rfl w.heap.size (.slice (some ⟨g, 0, none⟩) 12 12) 12 _ rfl hv3 so sc SE hS3 ns (unhide HNS).symm rfl (by rw [unhide HNS]; exact unhide HNL) (unhide HB0 w3 b3) ?_
  intro v4 w4 hv4 g4
  refine hK9.out _ _ (gb_trans h3 g4 (fun x e => Or.inr (by simpa [Value.ownBlock] using e))) (fun _ => ?_)
  clear hK9 K9
  (try simp only [Act.put, List.setIfInBounds_toArray, List.set_cons_zero, List.set_cons_succ])
  have gW4 := gb_trans h3 g4 (fun x e => Or.inr (by simpa [Value.ownBlock] using e))
  obtain ⟨ao, c, rfl, hs4, hB4, b4⟩ := unhide HFIN w3 g v4 w4 hv3 hB3 b3 (by rw [unhide HNS] at hv4; exact hv4) g4
  clear hv4 g4 hv3 hB3 b3 hS3 h3
  have h4 : w2.grownBy w4 (some g) := gW4
  refine wpAnyH_take (i := 9) (oi := { dst := some 10, op := Op.assign (Operand.tmp 24), type := _, pos := _, after := _, guard := _ }) (v := .slice ao nt c) rfl (by kernel_rfl) (by kernel_rfl) (by kernel_rfl) (fun _ _ _ h => h) (Or.inl ⟨by rfl, fun V (hV : w2.grownBy V (some g)) => by go_simp⟩) h4 ?_
  (try simp only [Act.put, List.setIfInBounds_toArray, List.set_cons_zero, List.set_cons_succ])
  refine wpAnyH_done (by kernel_rfl) ?_ _
  refine NoPanic.normal ?_
  clear h4 h0 hat hrN hrK HNK
  have ckp := unhide HKP w4 ao c hs4 hB4 b4
  clear HKP hB4 b4 HFIN
  go_wp2_with (first
    | (refine wpList_built rfl 83 _ rfl ZC ?hbc ?_)
    | (go_at_call 42; refine ckp.mono ?_; rintro e w5 ⟨rfl, hs5, hB5, b5⟩; clear ckp))
  case hbc => exact unhide HBC
  go_ret
  exact ⟨_, _, rfl, hs5, hB5, b5⟩

/-- What the cipher opens of a sealed text. -/
def opnR (k be s : List UInt8) : Option (List UInt8) := if s.length < 28 then none else if openB k (s.take 12) be (s.drop 12) then some (openL k (s.take 12) be (s.drop 12)) else none

set_option maxRecDepth 100000 in
set_option maxHeartbeats 2000000 in
theorem openReal_any (w : World) (k be s : List UInt8) (bo so : Option Addr) (cb cs : Nat) (hC : CTab w) (hk : k.length = 32) (hb : Bts w bo cb be) (hs : Bts w so cs s) (hbe : be.length ≤ 1000) (hsl : s.length ≤ 1500) :
    Calls Tryd.prog 32 #[.agg (k.map bv).toArray, .slice bo be.length cb, .slice so s.length cs] w fun e w' => ∃ xo xc, e = .returned (.tuple #[.slice xo (txtO (opnR k be s)).length xc, .bool (opnR k be s).isSome]) ∧ BtT w' xo xc (txtO (opnR k be s)) ∧ w.grownBy w' none := by
  by_cases h28 : s.length < 28
  · have ho : opnR k be s = none := by unfold opnR; rw [if_pos h28]
    rw [ho]
    obtain ⟨n, hn⟩ : ∃ n, n = s.length := ⟨_, rfl⟩
    rw [← hn] at h28 ⊢
    have hi : (n : Int) < 28 := by omega
    have hg : w.grownBy (w.alloc (.cells (k.map bv).toArray 37)) none := gb_alloc (gb_refl _ _) _
    clear hC hk hb hs hbe hsl h28 hn ho
    go_enter Tryd.func32, Tryd.ntmps32
    go_wp2
    go_ret2
    exact ⟨none, 0, rfl, ⟨Bts.nil _, fun _ e => by cases e⟩, hg⟩
  · obtain ⟨ad, rfl⟩ : ∃ ad, so = some ad := by
      cases so with
      | none => have := hs.zip rfl; omega
      | some ad => exact ⟨ad, rfl⟩
    have hsp := hs.shape ad rfl (by omega)
    obtain ⟨N, hN⟩ : ∃ N, N = s.take 12 := ⟨_, rfl⟩
    have hNl : N.length = 12 := by rw [hN, List.length_take]; omega
    obtain ⟨y, hy⟩ : ∃ y, y = s.drop 12 := ⟨_, rfl⟩
    have hyl : y.length = s.length - 12 := by rw [hy, List.length_drop]
    obtain ⟨ob, hob⟩ : ∃ ob, ob = openB k N be y := ⟨_, rfl⟩
    obtain ⟨X, hX⟩ : ∃ X, X = openL k N be y := ⟨_, rfl⟩
    have ho : txtO (opnR k be s) = X ∧ (opnR k be s).isSome = ob := by
      unfold opnR
      rw [if_neg h28, ← hN, ← hy, ← hob, ← hX]
      cases ob with
      | true => exact ⟨rfl, rfl⟩
      | false => exact ⟨by rw [hX, openL_no hob.symm]; rfl, rfl⟩
    rw [ho.1, ho.2]
    have hi32 : (Tryd.prog.info? 37).map (·.size) = some (k.map bv).length := by rw [List.length_map, hk]; exact info_key
    have hi12 : (Tryd.prog.info? 64).map (·.size) = some (N.map bv).length := by rw [List.length_map, hNl]; exact info_nonce
    obtain ⟨W1, hW1⟩ : ∃ W1, W1 = w.alloc (.cells (k.map bv).toArray 37) := ⟨_, rfl⟩
    have g1 : w.grownBy W1 none := by rw [hW1]; exact gb_alloc (gb_refl _ _) _
    have hs1 : W1.heap.size = w.heap.size + 1 := by rw [hW1, World.size_alloc]
    have hK1 : Blk W1 w.heap.size 37 (k.map bv) := by rw [hW1]; exact Blk.new w _ _
    obtain ⟨b, o, sp⟩ := ad
    simp only at hsp
    subst hsp
    have hr1 : W1.rangeAt b o (N.map bv) := by
      refine range_kept ?_ g1 (by simp)
      intro j v hj
      have hj' : j < N.length := by have := (List.getElem?_eq_some_iff.1 hj).1; simpa using this
      have := hs.cell ⟨b, o, none⟩ rfl j (by omega)
      rw [this, ← hj, List.getElem?_map, List.getElem?_eq_getElem hj']
      simp [hN, bv]
    obtain ⟨Z, hZ⟩ : ∃ Z : List UInt8, Z = List.replicate 12 0 := ⟨_, rfl⟩
    have hzv := zero_nonce
    rw [← hZ] at hzv
    have hZl : Z.length = 12 := by rw [hZ]; rfl
    obtain ⟨W2, hW2⟩ : ∃ W2, W2 = W1.alloc (.cells (Z.map bv).toArray 64) := ⟨_, rfl⟩
    have hZ2 : Blk W2 W1.heap.size 64 (Z.map bv) := by rw [hW2]; exact Blk.new W1 _ _
    have g2 : W1.grownBy W2 none := by rw [hW2]; exact gb_alloc (gb_refl _ _) _
    obtain ⟨W3, hW3⟩ : ∃ W3, W3 = W2.setRow W1.heap.size (N.map bv).toArray := ⟨_, rfl⟩
    have hN3 : Blk W3 W1.heap.size 64 (N.map bv) := by rw [hW3]; exact hZ2.row _
    have g3 : W1.grownBy W3 none := by rw [hW3]; exact gb_row g2 _ (Or.inl (Nat.le_refl _))
    have hrK := (hK1.kept g3 (by simp)).whole
    have hrN := hN3.whole
    have hsz12 : ((N.map bv).toArray).size = 12 := by simp [hNl]
    have hszZ : ((Z.map bv).toArray).size = 12 := by simp [hZl]
    have hto : ∀ W, (Instr.slice 22 (.slice (some ⟨b, o, none⟩) s.length cs) none (some (.int .i64 12)) none).run Tryd.prog W = .ok (.slice (some ⟨b, o, none⟩) 12 cs) W := fun W => slice_to (P := Tryd.prog) W 22 5 Tryd.underlying22 size_byte (some ⟨b, o, none⟩) s.length cs 12 (by have := hs.fits; omega)
    have hfr : ∀ W, (Instr.slice 22 (.slice (some ⟨b, o, none⟩) s.length cs) (some (.int .i64 12)) none none).run Tryd.prog W = .ok (.slice (cutA (some ⟨b, o, none⟩) cs 12) (s.length - 12) (cs - 12)) W := fun W => slice_from (P := Tryd.prog) W 22 5 Tryd.underlying22 size_byte (some ⟨b, o, none⟩) s.length cs 12 (by omega)
    obtain ⟨yo, hyo⟩ : ∃ yo, yo = cutA (some (⟨b, o, none⟩ : Addr)) cs 12 := ⟨_, rfl⟩
    rw [← hyo] at hfr
    have hat := at_nonce ⟨b, o, none⟩ 12 cs (by omega)
    have hcop : ∀ V, W3.grownBy V none → Calls Tryd.prog 47 #[.agg (k.map bv).toArray, .agg (N.map bv).toArray, .slice bo be.length cb, .slice yo (s.length - 12) (cs - 12)] V fun e w' => ∃ xo xc, e = .returned (.tuple #[.slice xo X.length xc, .bool ob]) ∧ BtT w' xo xc X ∧ W3.grownBy w' none := fun V gV => by
      have G := tn (tn g1 g3) gV
      have := aead_ok.opened V k N be y bo yo cb (cs - 12) hk hNl (hb.kept G (fun _ e => by cases e)) (by rw [hy, hyo]; exact (hs.drop 12 (by omega)).kept G (fun _ e => by cases e)) (by omega) (by omega) (hC.kept0 G)
      rw [hyl, ← hob, ← hX] at this
      refine this.mono fun e w' ⟨v, he, ⟨xo, xc, hv, hB, hn⟩, g⟩ => ⟨xo, xc, by rw [he, hv], ⟨hB, fun ad e => (hn ad e).2⟩, tn gV g⟩
    have cop := hcop W3.drew (gb_drew (gb_refl _ _))
    have h0 : W3.grownBy W3.drew none := gb_drew (gb_refl _ _)
    have hi28 : ¬ (s.length : Int) < 28 := by omega
    have hG := tn g1 g3
    obtain ⟨n, hn⟩ : ∃ n, n = s.length := ⟨_, rfl⟩
    obtain ⟨m, hmn⟩ : ∃ m, m = s.length - 12 := ⟨_, rfl⟩
    obtain ⟨cy, hcy⟩ : ∃ m, m = cs - 12 := ⟨_, rfl⟩
    obtain ⟨nb, hnb⟩ : ∃ m, m = be.length := ⟨_, rfl⟩
    obtain ⟨nx, hnx⟩ : ∃ m, m = X.length := ⟨_, rfl⟩
    rw [← hmn, ← hcy, ← hnb, ← hnx] at cop
    rw [← hmn, ← hcy] at hfr
    rw [← hn] at hto hfr hi28 ⊢
    rw [← hnb, ← hnx]
    obtain ⟨ad, had⟩ : ∃ ad : Addr, ad = ⟨b, o, none⟩ := ⟨_, rfl⟩
    have hW13 : (W1.alloc (.cells (Z.map bv).toArray 64)).setRow W1.heap.size (N.map bv).toArray = W3 := by rw [hW3, hW2]
    have HW1 := hide hW1
    have HW2 := hide hW2
    have HW3 := hide hW3
    have HSN := hide hsz12
    have HSZ := hide hszZ
    have HZ2 := hide hZ2
    have HRK := hide hrK
    have HRN := hide hrN
    have HR1 := hide hr1
    have HCOP := hide cop
    have HH0 := hide h0
    have HGG := hide hG
    have HI12 := hide hi12
    clear hC hk hb hs hbe hsl h28 hN hNl hy hyl hob hX ho hW1 g1 hs1 hK1 hr1 hZ hZl hW2 hZ2 g2 hW3 hN3 g3 hrK hrN hsz12 hszZ hyo hcop h0 hG hn hmn hcy hnb hnx hW13 cop hi12 had ad
    go_enter Tryd.func32, Tryd.ntmps32
    go_upto_region 3 with fail
    rw [← unhide HW1]
    go_upto_region 4 with (first
      | (refine wpList_load_mid rfl 64 _ rfl b o rfl (N.map bv) _ (unhide HR1) Tryd.underlying64 rfl (unhide HI12) ?_)
      | (rw [← unhide HW2]; refine wpList_store_row rfl 64 _ _ rfl W1.heap.size _ rfl rfl _ _ (unhide HZ2) ?_ ?_ ?_ ?_; (rw [unhide HSN]; exact info_nonce); (rw [unhide HSN, unhide HSZ]); (exact all_oneCell_toArray (bv_one _)); rw [← unhide HW3]))
    have hrK := unhide HRK
    have hrN := unhide HRN
    have cop := unhide HCOP
    have h0 := unhide HH0
    have hi12 := unhide HI12
    obtain ⟨ad, had⟩ : ∃ ad : Addr, ad = ⟨b, o, none⟩ := ⟨_, rfl⟩
    rw [← had] at hfr ⊢
    clear had hto hat HRK HRN HCOP HH0 HI12 HW1 HW2 HW3 HSN HSZ HZ2 HR1 hi28
    refine wp_region_noPanic ?_
    refine wp_region_held_drew (S := fun V => W3.grownBy V none) (by kernel_rfl) h0 (fun _ => ?_)
    refine wpAnyH_take (i := 0) (oi := { dst := some 16, op := Op.load 37 (Operand.tmp 3), type := _, pos := _, after := _, guard := _ }) (v := .agg (k.map bv).toArray) rfl (by kernel_rfl) (by kernel_rfl) (by kernel_rfl) (fun _ _ _ h => h) (yieldsIf_load_mid (by rfl) _ _ rfl _ _ rfl (k.map bv) _ (fun V hV => range_kept hrK hV (by simp)) Tryd.underlying37 rfl hi32) h0 ?_
    (try simp only [Act.put, List.setIfInBounds_toArray, List.set_cons_zero, List.set_cons_succ])
    refine wpAnyH_take (i := 1) (oi := { dst := some 17, op := Op.load 64 (Operand.tmp 8), type := _, pos := _, after := _, guard := _ }) (v := .agg (N.map bv).toArray) rfl (by kernel_rfl) (by kernel_rfl) (by kernel_rfl) (fun _ _ _ h => h) (yieldsIf_load_mid (by rfl) _ _ rfl _ _ rfl (N.map bv) _ (fun V hV => range_kept hrN hV (by simp)) Tryd.underlying64 rfl hi12) h0 ?_
    (try simp only [Act.put, List.setIfInBounds_toArray, List.set_cons_zero, List.set_cons_succ])
    refine wpAnyH_take (i := 2) (oi := { dst := some 18, op := Op.move (Operand.tmp 1), type := _, pos := _, after := _, guard := _ }) (v := .slice bo nb cb) rfl (by kernel_rfl) (by kernel_rfl) (by kernel_rfl) (fun _ _ _ h => h) (Or.inl ⟨by rfl, fun V (hV : W3.grownBy V none) => by go_simp⟩) h0 ?_
    (try simp only [Act.put, List.setIfInBounds_toArray, List.set_cons_zero, List.set_cons_succ])
    refine wpAnyH_take (i := 3) (oi := { dst := some 19, op := Op.move (Operand.tmp 2), type := _, pos := _, after := _, guard := _ }) (v := .slice (some ad) n cs) rfl (by kernel_rfl) (by kernel_rfl) (by kernel_rfl) (fun _ _ _ h => h) (Or.inl ⟨by rfl, fun V (hV : W3.grownBy V none) => by go_simp⟩) h0 ?_
    (try simp only [Act.put, List.setIfInBounds_toArray, List.set_cons_zero, List.set_cons_succ])
    refine wpAnyH_take (i := 4) (oi := { dst := some 20, op := Op.slice 22 (Operand.tmp 19) (some (Operand.const (Value.int IntKind.i64 12))) none none, type := _, pos := _, after := _, guard := _ }) (v := .slice yo m cy) rfl (by kernel_rfl) (by kernel_rfl) (by kernel_rfl) (fun _ _ _ h => h) (Or.inl ⟨by rfl, fun V (hV : W3.grownBy V none) => by go_simp⟩) h0 ?_
    (try simp only [Act.put, List.setIfInBounds_toArray, List.set_cons_zero, List.set_cons_succ])
    refine wpAnyH_ready (rs := [5]) (by kernel_rfl) (by simp) ?_
    refine AllReadyH.cons (o := { dst := some 21, op := Op.call { callee := Callee.value (Operand.func 47), args := #[(Operand.tmp 16), (Operand.tmp 17), (Operand.tmp 18), (Operand.tmp 20)], argTypes := #[37, 64, 22, 22] }, type := _, pos := _, after := _, guard := _ }) rfl (fun K9 hK9 => ?_) AllReadyH.nil
    go_simp
    go_at_call 47
    refine (cop).mono ?_
    rintro e w4 ⟨xo, xc, rfl, hX4, h4⟩
    go_wp2_with fail
    refine hK9.out _ _ h4 (fun _ => ?_)
    clear hK9 K9
    (try simp only [Act.put, List.setIfInBounds_toArray, List.set_cons_zero, List.set_cons_succ])
    refine wpAnyH_take (i := 6) (oi := { dst := some 22, op := Op.extract (Operand.tmp 21) 0, type := _, pos := _, after := _, guard := _ }) (v := .slice xo nx xc) rfl (by kernel_rfl) (by kernel_rfl) (by kernel_rfl) (fun _ _ _ h => h) (Or.inl ⟨by rfl, fun V (hV : W3.grownBy V none) => by go_simp⟩) h4 ?_
    (try simp only [Act.put, List.setIfInBounds_toArray, List.set_cons_zero, List.set_cons_succ])
    refine wpAnyH_take (i := 7) (oi := { dst := some 23, op := Op.extract (Operand.tmp 21) 1, type := _, pos := _, after := _, guard := _ }) (v := .bool ob) rfl (by kernel_rfl) (by kernel_rfl) (by kernel_rfl) (fun _ _ _ h => h) (Or.inl ⟨by rfl, fun V (hV : W3.grownBy V none) => by go_simp⟩) h4 ?_
    (try simp only [Act.put, List.setIfInBounds_toArray, List.set_cons_zero, List.set_cons_succ])
    refine wpAnyH_take (i := 8) (oi := { dst := some 6, op := Op.assign (Operand.tmp 22), type := _, pos := _, after := _, guard := _ }) (v := .slice xo nx xc) rfl (by kernel_rfl) (by kernel_rfl) (by kernel_rfl) (fun _ _ _ h => h) (Or.inl ⟨by rfl, fun V (hV : W3.grownBy V none) => by go_simp⟩) h4 ?_
    (try simp only [Act.put, List.setIfInBounds_toArray, List.set_cons_zero, List.set_cons_succ])
    refine wpAnyH_take (i := 9) (oi := { dst := some 7, op := Op.assign (Operand.tmp 23), type := _, pos := _, after := _, guard := _ }) (v := .bool ob) rfl (by kernel_rfl) (by kernel_rfl) (by kernel_rfl) (fun _ _ _ h => h) (Or.inl ⟨by rfl, fun V (hV : W3.grownBy V none) => by go_simp⟩) h4 ?_
    (try simp only [Act.put, List.setIfInBounds_toArray, List.set_cons_zero, List.set_cons_succ])
    refine wpAnyH_done (by kernel_rfl) ?_ _
    refine NoPanic.normal ?_
    go_wp2
    go_ret2
    exact ⟨_, _, rfl, hX4, tn (unhide HGG) h4⟩

end Go.Proofs.YtjckdgapefaokaaDoor

/- What Seal and Open of box answer, in both modes: THE CONTRACTS OF LAYER 8. Of texts of at most 1000 bytes, with at most 1000 beside them; sealed ones of at most 1500. -/
namespace Go.Proofs.YtjckdgapefaokaaDoor
open Go.RowKit

theorem built_own (k : List UInt8) (sb : ByteArray) (h : k.length = 32) : Tryd.prog.built 81 [(0, .agg (k.map bv).toArray), (1, .string sb)] = some (k.map bv ++ [Value.string sb]).toArray := by
  obtain ⟨a0, a1, a2, a3, a4, a5, a6, a7, a8, a9, a10, a11, a12, a13, a14, a15, a16, a17, a18, a19, a20, a21, a22, a23, a24, a25, a26, a27, a28, a29, a30, a31, rfl⟩ := list32 k h
  kernel_rfl
theorem built_cont (k : List UInt8) (sb st : ByteArray) (h : k.length = 32) : Tryd.prog.built 83 [(0, .agg (k.map bv ++ [Value.string sb]).toArray), (1, .string st)] = some (k.map bv ++ [Value.string sb, Value.string st]).toArray := by
  obtain ⟨a0, a1, a2, a3, a4, a5, a6, a7, a8, a9, a10, a11, a12, a13, a14, a15, a16, a17, a18, a19, a20, a21, a22, a23, a24, a25, a26, a27, a28, a29, a30, a31, rfl⟩ := list32 k h
  kernel_rfl

/-- Bytes that a box's doing leaves. -/
def Stays (w : World) (bb bs bm : Nat) (ao : Option Addr) (c : Nat) (l : List UInt8) : Prop := ∀ V, By3 w V bb bs bm → Bts V ao c l
theorem Stays.old {u w : World} {bb bs bm : Nat} {B : BoxS} {ao : Option Addr} {c : Nat} {l : List UInt8} (h : Bts u ao c l) (hB : BoxAt u w bb bs bm B) (gu : u.grownBy w none) : Stays w bb bs bm ao c l := fun _ gV => h.old (by3_gb gu gV hB.nb hB.ns hB.nm)
theorem Stays.typ {u w : World} {bb bs bm : Nat} {B : BoxS} {ao : Option Addr} {c : Nat} {l : List UInt8} (h : BtT w ao c l) (hB : BoxAt u w bb bs bm B) : Stays w bb bs bm ao c l := fun _ gV => (h.box hB gV).bts
theorem Stays.nil (w : World) (bb bs bm : Nat) : Stays w bb bs bm none 0 [] := fun _ _ => Bts.nil _

set_option maxRecDepth 100000 in
set_option maxHeartbeats 2000000 in
theorem seal_any (u w : World) (bb bs bm : Nat) (B : BoxS) (k be tx : List UInt8) (bo xo : Option Addr) (cb cx : Nat) (h : BoxAt u w bb bs bm B) (gu : u.grownBy w none) (hT : Tabs u) (hC : CTab u) (hk : k.length = 32) (hb : Stays w bb bs bm bo cb be) (hx : Stays w bb bs bm xo cx tx)
    (hbe : be.length ≤ 1000) (ht : tx.length ≤ 1000) (hok : B.Ok) (hus : B.u ≤ 17592186044416) (hL : B.L.length ≤ 17592186044416) :
    Calls Tryd.prog 12 #[.pointer (some ⟨bb, 0, none⟩), .agg (k.map bv).toArray, .slice bo be.length cb, .slice xo tx.length cx] w (Sealed u w bb bs bm (B.seal k be tx)) := by
  have hi32 : (Tryd.prog.info? 37).map (·.size) = some (k.map bv).toArray.size := by rw [List.size_toArray, List.length_map, hk]; exact info_key
  obtain ⟨W1, hW1⟩ : ∃ W1, W1 = w.alloc (.cells (k.map bv).toArray 37) := ⟨_, rfl⟩
  have g1 : w.grownBy W1 none := by rw [hW1]; exact gb_alloc (gb_refl _ _) _
  have hK1 : Blk W1 w.heap.size 37 (k.map bv) := by rw [hW1]; exact Blk.new w _ _
  have h1 := h.none g1
  have gu1 := tn gu g1
  have b1 : By3 w W1 bb bs bm := (By3.refl w bb bs bm).none g1
  obtain ⟨hc0, hc1, _, _⟩ := h1.cell
  have c1 := made_at W1 bb ⟨bs, 0, none⟩ hc1
  have hbe' : ¬ (be.length : Int) > 65536 := by omega
  have htx' : ¬ (tx.length : Int) > 65536 := by omega
  have hbe2 : ¬ (65536 : Int) < (be.length : Int) := by omega
  have htx2 : ¬ (65536 : Int) < (tx.length : Int) := by omega
  have hb1 : ∀ V, By3 W1 V bb bs bm → Bts V bo cb be := fun V g => hb V (b1.trans g)
  have hx1 : ∀ V, By3 W1 V bb bs bm → Bts V xo cx tx := fun V g => hx V (b1.trans g)
  rcases hok.mode with hm | hm
  · have csr := sealReal_any u W1 bb bs bm B k be tx bo xo cb cx h1 gu1 hT hC hk hb1 hx1 hbe ht hok hm hus hL _ rfl
    obtain ⟨t, htt⟩ : ∃ t, t = told B.T B.u 12 ++ sealL k (told B.T B.u 12) be tx := ⟨_, rfl⟩
    rw [← htt] at csr
    have hR : B.seal k be tx = ({ B with u := B.u + 12, L := B.L ++ [⟨t, [], [], []⟩] }, some t) := by
      unfold BoxS.seal
      rw [if_pos hm, htt]
    rw [hR]
    rw [hm] at hc0
    obtain ⟨nb, hnb⟩ : ∃ n, n = be.length := ⟨_, rfl⟩
    obtain ⟨nx, hnx⟩ : ∃ n, n = tx.length := ⟨_, rfl⟩
    obtain ⟨KA, hKA⟩ : ∃ A : Array Value, A = (k.map bv).toArray := ⟨_, rfl⟩
    have hK2 : W1.heap[w.heap.size]? = some (.cells KA 37 (0, 0)) := by rw [hKA]; exact hK1
    rw [← hnb, ← hnx, ← hKA] at csr ⊢
    rw [← hnb] at hbe' hbe2
    rw [← hnx] at htx' htx2
    rw [← hKA] at hW1 hi32
    have hcz : W1.cell? ⟨bb, 0, none⟩ = some (.int .i64 0) := hc0
    have HW1 := hide hW1
    have HK := hide hK2
    have HI := hide hi32
    have B1 := hide b1
    clear hW1 g1 hK1 hK2 h1 gu1 b1 hb1 hx1 htt hR hc0 hc1 hm hnb hnx hKA hi32 h gu hT hC hk hb hx hbe ht hok hus hL
    go_enter Tryd.func12, Tryd.ntmps12
    go_upto_region 1 with fail
    rw [← unhide HW1]
    go_wp2_with (first
      | (go_at_call 27; refine c1.mono ?_; rintro e w2 ⟨rfl, e2⟩; subst w2; clear c1)
      | (refine wpList_load_row rfl 37 _ rfl w.heap.size rfl _ _ _ _ (unhide HK) Tryd.underlying37 rfl (unhide HI) ?_)
      | (go_at_call 28; refine csr.mono ?_; rintro e w3 ⟨ao, c, rfl, hs3, hB3, b3⟩; clear csr))
    go_ret2
    exact ⟨ao, c, rfl, hs3, hB3, (unhide B1).trans b3⟩
  · have csi := sealIdeal_any u W1 bb bs bm B k be tx h1 gu1 hT hk (hok.keys hm) (by omega) hus hL
    have hR : B.seal k be tx = B.tries k be tx 8 := by
      unfold BoxS.seal
      rw [if_neg (by omega)]
    rw [hR]
    rw [hm] at hc0
    have hcb := conv_str (hb1 W1 (By3.refl _ _ _ _))
    have hct := conv_str (hx1 W1 (By3.refl _ _ _ _))
    have hbo := built_own k (str be) hk
    have hbc := built_cont k (str be) (str tx) hk
    rw [show contV ⟨[], k, be, tx⟩ = .agg (k.map bv ++ [Value.string (str be), Value.string (str tx)]).toArray by unfold contV contC; rw [padK_full hk]] at csi
    obtain ⟨sb, hsb⟩ : ∃ s, s = str be := ⟨_, rfl⟩
    obtain ⟨st, hst⟩ : ∃ s, s = str tx := ⟨_, rfl⟩
    rw [← hsb] at hcb hbo
    rw [← hst] at hct
    rw [← hsb, ← hst] at hbc csi
    obtain ⟨OA, hOA⟩ : ∃ A : Array Value, A = (k.map bv ++ [Value.string sb]).toArray := ⟨_, rfl⟩
    obtain ⟨CA, hCA⟩ : ∃ A : Array Value, A = (k.map bv ++ [Value.string sb, Value.string st]).toArray := ⟨_, rfl⟩
    obtain ⟨KA, hKA⟩ : ∃ A : Array Value, A = (k.map bv).toArray := ⟨_, rfl⟩
    rw [← hOA] at hbo hbc
    rw [← hCA] at hbc csi
    obtain ⟨nb, hnb⟩ : ∃ n, n = be.length := ⟨_, rfl⟩
    obtain ⟨nx, hnx⟩ : ∃ n, n = tx.length := ⟨_, rfl⟩
    have hK2 : W1.heap[w.heap.size]? = some (.cells KA 37 (0, 0)) := by rw [hKA]; exact hK1
    rw [← hnb, ← hnx, ← hKA]
    rw [← hnb] at hbe' hcb hbe2
    rw [← hnx] at htx' hct htx2
    rw [← hKA] at hW1 hi32 hbo
    have hcz : W1.cell? ⟨bb, 0, none⟩ = some (.int .i64 1) := hc0
    obtain ⟨R, hRR⟩ : ∃ R, R = B.tries k be tx 8 := ⟨_, rfl⟩
    rw [← hRR] at csi ⊢
    have HW1 := hide hW1
    have HK := hide hK2
    have HI := hide hi32
    have B1 := hide b1
    have HBO := hide hbo
    have HBC := hide hbc
    clear hW1 g1 hK1 hK2 h1 gu1 b1 hb1 hx1 hR hRR hc0 hc1 hm hnb hnx hKA hi32 hbo hbc hOA hCA hsb hst h gu hT hC hk hb hx hbe ht hok hus hL
    go_enter Tryd.func12, Tryd.ntmps12
    go_upto_region 1 with fail
    rw [← unhide HW1]
    go_wp2_with (first
      | (go_at_call 27; refine c1.mono ?_; rintro e w2 ⟨rfl, e2⟩; subst w2; clear c1)
      | (refine wpList_load_row rfl 37 _ rfl w.heap.size rfl _ _ _ _ (unhide HK) Tryd.underlying37 rfl (unhide HI) ?_)
      | (refine wpList_built rfl 81 _ rfl OA ?hbo ?_)
      | (refine wpList_built rfl 83 _ rfl CA ?hbc ?_)
      | (go_at_call 29; refine csi.mono ?_; rintro e w3 ⟨ao, c, rfl, hs3, hB3, b3⟩; clear csi))
    case hbo => exact unhide HBO
    case hbc => exact unhide HBC
    go_ret2
    exact ⟨ao, c, rfl, hs3, hB3, (unhide B1).trans b3⟩

/-- What an Open answers. -/
def Opened (w : World) (o : Option (List UInt8)) (e : Ending) (w' : World) : Prop :=
  ∃ xo xc, e = .returned (.tuple #[.slice xo (txtO o).length xc, .bool o.isSome]) ∧ BtT w' xo xc (txtO o) ∧ w.grownBy w' none

set_option maxRecDepth 100000 in
set_option maxHeartbeats 2000000 in
theorem open_any (u w : World) (bb bs bm : Nat) (B : BoxS) (k be s : List UInt8) (bo so : Option Addr) (cb cs : Nat) (h : BoxAt u w bb bs bm B) (gu : u.grownBy w none) (hC : CTab u) (hk : k.length = 32) (hb : Bts w bo cb be) (hs : Bts w so cs s)
    (hbe : be.length ≤ 1000) (hsl : s.length ≤ 1500) (hok : B.Ok) (htx : ∀ x ∈ B.L, x.tx.length ≤ 2000) :
    Calls Tryd.prog 14 #[.pointer (some ⟨bb, 0, none⟩), .agg (k.map bv).toArray, .slice bo be.length cb, .slice so s.length cs] w (Opened w (B.opn k be s)) := by
  have hi32 : (Tryd.prog.info? 37).map (·.size) = some (k.map bv).toArray.size := by rw [List.size_toArray, List.length_map, hk]; exact info_key
  obtain ⟨W1, hW1⟩ : ∃ W1, W1 = w.alloc (.cells (k.map bv).toArray 37) := ⟨_, rfl⟩
  have g1 : w.grownBy W1 none := by rw [hW1]; exact gb_alloc (gb_refl _ _) _
  have hK1 : Blk W1 w.heap.size 37 (k.map bv) := by rw [hW1]; exact Blk.new w _ _
  have h1 := h.none g1
  have gu1 := tn gu g1
  obtain ⟨hc0, hc1, _, _⟩ := h1.cell
  have c1 := made_at W1 bb ⟨bs, 0, none⟩ hc1
  have hb1 : Bts W1 bo cb be := hb.kept g1 (fun _ e => by cases e)
  have hs1 : Bts W1 so cs s := hs.kept g1 (fun _ e => by cases e)
  rcases hok.mode with hm | hm
  · have cor := openReal_any W1 k be s bo so cb cs (hC.kept0 gu1) hk hb1 hs1 hbe hsl
    have hR : B.opn k be s = opnR k be s := by
      unfold BoxS.opn opnR
      rw [if_pos hm]
    rw [hR]
    rw [hm] at hc0
    obtain ⟨o, ho⟩ : ∃ o, o = opnR k be s := ⟨_, rfl⟩
    rw [← ho] at cor ⊢
    obtain ⟨nb, hnb⟩ : ∃ n, n = be.length := ⟨_, rfl⟩
    obtain ⟨nx, hnx⟩ : ∃ n, n = s.length := ⟨_, rfl⟩
    obtain ⟨KA, hKA⟩ : ∃ A : Array Value, A = (k.map bv).toArray := ⟨_, rfl⟩
    have hK2 : W1.heap[w.heap.size]? = some (.cells KA 37 (0, 0)) := by rw [hKA]; exact hK1
    rw [← hnb, ← hnx, ← hKA] at cor ⊢
    rw [← hKA] at hW1 hi32
    have hcz : W1.cell? ⟨bb, 0, none⟩ = some (.int .i64 0) := hc0
    have HW1 := hide hW1
    have HK := hide hK2
    have HI := hide hi32
    have G1 := hide g1
    clear hW1 g1 hK1 hK2 h1 gu1 hb1 hs1 hR ho hc0 hc1 hm hnb hnx hKA hi32 h gu hC hk hb hs hbe hsl hok htx
    go_enter Tryd.func14, Tryd.ntmps14
    go_upto_region 1 with fail
    rw [← unhide HW1]
    go_wp2_with (first
      | (go_at_call 27; refine c1.mono ?_; rintro e w2 ⟨rfl, e2⟩; subst w2; clear c1)
      | (refine wpList_load_row rfl 37 _ rfl w.heap.size rfl _ _ _ _ (unhide HK) Tryd.underlying37 rfl (unhide HI) ?_)
      | (go_at_call 32; refine cor.mono ?_; rintro e w3 ⟨ao, c, rfl, hs3, b3⟩; clear cor))
    go_ret2
    exact ⟨ao, c, rfl, hs3, tn (unhide G1) b3⟩
  · have coi := openIdeal_any u W1 bb bs bm B k be s so cs h1 hs1 hk hm hok htx
    rw [hm] at hc0
    have hcb := conv_str hb1
    have hbo := built_own k (str be) hk
    rw [show ownC k be = k.map bv ++ [Value.string (str be)] from rfl] at coi
    obtain ⟨sb, hsb⟩ : ∃ s, s = str be := ⟨_, rfl⟩
    rw [← hsb] at hcb hbo coi
    obtain ⟨OA, hOA⟩ : ∃ A : Array Value, A = (k.map bv ++ [Value.string sb]).toArray := ⟨_, rfl⟩
    obtain ⟨KA, hKA⟩ : ∃ A : Array Value, A = (k.map bv).toArray := ⟨_, rfl⟩
    rw [← hOA] at hbo coi
    obtain ⟨o, ho⟩ : ∃ o, o = B.opn k be s := ⟨_, rfl⟩
    rw [← ho] at coi ⊢
    obtain ⟨nb, hnb⟩ : ∃ n, n = be.length := ⟨_, rfl⟩
    obtain ⟨nx, hnx⟩ : ∃ n, n = s.length := ⟨_, rfl⟩
    have hK2 : W1.heap[w.heap.size]? = some (.cells KA 37 (0, 0)) := by rw [hKA]; exact hK1
    rw [← hnb, ← hnx, ← hKA]
    rw [← hnx] at coi
    rw [← hnb] at hcb
    rw [← hKA] at hW1 hi32 hbo
    have hcz : W1.cell? ⟨bb, 0, none⟩ = some (.int .i64 1) := hc0
    have HW1 := hide hW1
    have HK := hide hK2
    have HI := hide hi32
    have G1 := hide g1
    have HBO := hide hbo
    clear hW1 g1 hK1 hK2 h1 gu1 hb1 hs1 ho hc0 hc1 hm hnb hnx hKA hi32 hbo hOA hsb h gu hC hk hb hs hbe hsl hok htx
    go_enter Tryd.func14, Tryd.ntmps14
    go_upto_region 1 with fail
    rw [← unhide HW1]
    go_wp2_with (first
      | (go_at_call 27; refine c1.mono ?_; rintro e w2 ⟨rfl, e2⟩; subst w2; clear c1)
      | (refine wpList_load_row rfl 37 _ rfl w.heap.size rfl _ _ _ _ (unhide HK) Tryd.underlying37 rfl (unhide HI) ?_)
      | (refine wpList_built rfl 81 _ rfl OA ?hbo ?_)
      | (go_at_call 33; refine coi.mono ?_; rintro e w3 ⟨ao, c, rfl, hs3, b3⟩; clear coi))
    case hbo => exact unhide HBO
    go_ret2
    exact ⟨ao, c, rfl, hs3, tn (unhide G1) b3⟩

end Go.Proofs.YtjckdgapefaokaaDoor

/- The law package's short and one (layer 8): one answers true, and nothing that was in memory has changed. Where the three tables hold what they are laid with. -/
namespace Go.Proofs.YtjckdgapefaokaaDoor
open Go.RowKit

theorem short8_any (w : World) (ao : Option Addr) (c : Nat) (x : List UInt8) (hf : x.length ≤ c) :
    Calls Tryd.prog 11 #[.slice ao x.length c] w fun e w' => e = .returned (.slice ao (x.take 200).length c) ∧ w' = w := by
  by_cases h : 200 < x.length
  · have h2 : (200 : Int) < (x.length : Int) := by omega
    have hto : ∀ W, (Instr.slice 22 (.slice ao x.length c) none (some (.int .i64 200)) none).run Tryd.prog W = .ok (.slice ao 200 c) W := fun W => slice_to (P := Tryd.prog) W 22 5 Tryd.underlying22 size_byte ao x.length c 200 (by omega)
    have hl : (x.take 200).length = 200 := by rw [List.length_take]; omega
    rw [hl]
    clear hl hf h
    go_enter Tryd.func11, Tryd.ntmps11
    go_wp2
    go_ret
    exact ⟨rfl, rfl⟩
  · have h2 : ¬ (200 : Int) < (x.length : Int) := by omega
    rw [List.take_of_length_le (by omega)]
    go_enter Tryd.func11, Tryd.ntmps11
    go_wp2
    go_ret
    exact ⟨rfl, rfl⟩

theorem built_key1 (x : UInt8) : Tryd.prog.built 37 [(0, bv x)] = some ((key1 x).map bv).toArray := by kernel_rfl

/-- The letters ab, in memory of their own. -/
theorem text_ab (w : World) : ∃ W1, W1 = w.alloc (.cells #[.int .u8 97, .int .u8 98] 5 (2, 3)) ∧ BtT W1 (some ⟨w.heap.size, 0, none⟩) 2 [97, 98] ∧ w.grownBy W1 none :=
  ⟨_, rfl, ⟨bts_new w [97, 98] (2, 3) (by decide), fun ad e => by cases e; exact ⟨_, _, heap_alloc_new w _⟩⟩, gb_alloc (gb_refl _ _) _⟩

/-- What one's play comes to. -/
theorem one_play (m : Nat) (hm : m = 0 ∨ m = 1) : ∃ B t, (BoxS.mk m [] 0 []).seal (key1 1) [] [97, 98] = (B, some t) ∧ t.length = 30 ∧ B.opn (key1 1) [] t = some [97, 98] ∧ B.opn (key1 2) [] t = none ∧ ∀ x ∈ B.L, x.tx.length ≤ 2000 := by
  rcases hm with rfl | rfl
  · refine ⟨_, _, rfl, ?_, ?_, ?_, ?_⟩
    · rw [none_told, List.length_append, sealL_length]; rfl
    · exact opn_real (b := ⟨0, [], 0, []⟩) rfl (key1 1) [] [97, 98]
    · show BoxS.opn ⟨0, [], 12, _⟩ _ _ (told [] 0 12 ++ sealL (key1 1) (told [] 0 12) [] [97, 98]) = none
      unfold BoxS.opn
      rw [if_pos rfl, none_told, if_neg (by rw [List.length_append, sealL_length]; decide), List.take_left' (by rfl), List.drop_left' (by rfl), other_key]
      rfl
    · intro x hx
      have : x = ⟨told [] 0 12 ++ sealL (key1 1) (told [] 0 12) [] [97, 98], [], [], []⟩ := by simpa [BoxS.seal] using hx
      rw [this]; decide
  · have hs : (BoxS.mk 1 [] 0 []).seal (key1 1) [] [97, 98] = (⟨1, [], 30, [⟨told [] 0 30, key1 1, [], [97, 98]⟩]⟩, some (told [] 0 30)) := rfl
    have hn : (BoxS.mk 1 [] 30 [⟨told [] 0 30, key1 1, [], [97, 98]⟩]).ss.Nodup := by simp [BoxS.ss]
    refine ⟨_, _, hs, told_length _ _ _, ?_, ?_, ?_⟩
    · have := opn_of (b := ⟨1, [], 30, [⟨told [] 0 30, key1 1, [], [97, 98]⟩]⟩) rfl hn (e := ⟨told [] 0 30, key1 1, [], [97, 98]⟩) (by simp) (key1 1) []
      rw [if_pos ⟨rfl, rfl⟩] at this
      exact this
    · have := opn_of (b := ⟨1, [], 30, [⟨told [] 0 30, key1 1, [], [97, 98]⟩]⟩) rfl hn (e := ⟨told [] 0 30, key1 1, [], [97, 98]⟩) (by simp) (key1 2) []
      rw [if_neg (by intro e; exact absurd e.1 (by decide))] at this
      exact this
    · intro x hx
      have : x = ⟨told [] 0 30, key1 1, [], [97, 98]⟩ := by simpa using hx
      rw [this]; decide

theorem ok_new (m : Nat) (hm : m = 0 ∨ m = 1) (T : List UInt8) (n : Nat) : (BoxS.mk m T n []).Ok := ⟨hm, fun _ x h => by simp at h, fun _ => by simp [BoxS.ss], fun _ x h => by simp at h⟩

set_option maxRecDepth 100000 in
set_option maxHeartbeats 2000000 in
theorem bone_any (w : World) (hT : Tabs w) (hC : CTab w) :
    Calls Tryd.prog 10 #[] w fun e w' => e = .returned (.bool true) ∧ w.grownBy w' none := by
  have cdn : ∀ V, w.grownBy V none → Calls Tryd.prog 9 #[.slice none 0 0] V fun e w' => ∃ bs, e = .returned (.pointer (some ⟨bs, 0, none⟩)) ∧ w.heap.size ≤ bs ∧ SrcAt w' bs [] 0 ∧ w.grownBy w' none := fun V gV =>
    (dnew_any V none 0 [] ⟨(fun _ => ⟨rfl, rfl⟩), Nat.le_refl _, Nat.zero_le _, (fun _ e => by cases e), (fun _ e => by cases e)⟩ (hT.kept0 gV) (by simp)).mono fun e w' ⟨b, he, hb, hS, g⟩ => ⟨b, he, Nat.le_trans gV.size hb, hS, tn gV g⟩
  have kc := fun (w : World) (C : Array Value) (n c : Nat) => Lib.run_convert_bytes_const (P := Tryd.prog) w 22 5 C n c Tryd.underlying22 Tryd.underlying5
  have hb1 : Tryd.prog.built 37 [(0, .int .u8 1)] = some ((key1 1).map bv).toArray := built_key1 1
  have hb2 : Tryd.prog.built 37 [(0, .int .u8 2)] = some ((key1 2).map bv).toArray := built_key1 2
  obtain ⟨KA, hKA⟩ : ∃ A : Array Value, A = ((key1 1).map bv).toArray := ⟨_, rfl⟩
  obtain ⟨KB, hKB⟩ : ∃ A : Array Value, A = ((key1 2).map bv).toArray := ⟨_, rfl⟩
  rw [← hKA] at hb1
  rw [← hKB] at hb2
  have play : ∀ (m : Nat) (hm : m = 0 ∨ m = 1) (V : World) (bs : Nat), w.grownBy V none → w.heap.size ≤ bs → SrcAt V bs [] 0 →
      Calls Tryd.prog 8 #[.int .i64 (m : Int), .pointer (some ⟨bs, 0, none⟩)] V fun e w1 => ∃ bb, e = .returned (.tuple #[.pointer (some ⟨bb, 0, none⟩), .int .i64 0]) ∧ w.grownBy w1 none ∧
        ∀ W ao, w1.grownBy W none → BtT W ao 2 [97, 98] → Calls Tryd.prog 12 #[.pointer (some ⟨bb, 0, none⟩), .agg KA, .slice none 0 0, .slice ao 2 2] W fun e w2 => ∃ so sc, e = .returned (.tuple #[.slice so 30 sc, .int .i64 0]) ∧ w.grownBy w2 none ∧
          (Calls Tryd.prog 14 #[.pointer (some ⟨bb, 0, none⟩), .agg KA, .slice none 0 0, .slice so 30 sc] w2 fun e w3 => ∃ xo xc, e = .returned (.tuple #[.slice xo 2 xc, .bool true]) ∧ w.grownBy w3 none ∧
            (Calls Tryd.prog 14 #[.pointer (some ⟨bb, 0, none⟩), .agg KB, .slice none 0 0, .slice so 30 sc] w3 fun e w4 => ∃ yo yc, e = .returned (.tuple #[.slice yo 0 yc, .bool false]) ∧ w.grownBy w4 none ∧
              (convert 22 9 (.slice xo 2 xc)).run Tryd.prog w4 = .ok (.string { data := #[97, 98] }) w4)) := fun m hm V bs gV hbs hS => by
    obtain ⟨B, t, hseal, htl, ho1, ho2, htx⟩ := one_play m hm
    have hok := (ok_new m hm [] 0).seal (key1 1) [] [97, 98] (key1_length 1)
    rw [hseal] at hok
    refine (new_any w V m bs [] 0 hm gV hbs hS).mono fun e w1 ⟨bb, bm, he, _, _, hB, g1⟩ => ⟨bb, he, tn gV g1, fun W ao gW hab => ?_⟩
    have G := tn (tn gV g1) gW
    have hBW := hB.none gW
    have := seal_any w W bb bs bm ⟨m, [], 0, []⟩ (key1 1) [] [97, 98] none ao 0 2 hBW G hT hC (key1_length 1) (Stays.nil _ _ _ _) (Stays.typ hab hBW) (by decide) (by decide) (ok_new m hm [] 0) (Nat.zero_le _) (Nat.zero_le _)
    rw [← hKA, hseal] at this
    refine this.mono fun e w2 ⟨so, sc, he, hs2, hB2, b2⟩ => ?_
    have he' : e = .returned (.tuple #[.slice so t.length sc, .int .i64 0]) := he
    have hs2' : BtT w2 so sc t := hs2
    have hB2' : BoxAt w w2 bb bs bm B := hB2
    have G2 := by3_gb G b2 hBW.nb hBW.ns hBW.nm
    rw [htl] at he'
    refine ⟨so, sc, he', G2, ?_⟩
    have c3 := open_any w w2 bb bs bm B (key1 1) [] t none so 0 sc hB2' G2 hC (key1_length 1) (Bts.nil _) hs2'.bts (by decide) (by omega) hok htx
    rw [← hKA, ho1, htl] at c3
    refine c3.mono fun e w3 ⟨xo, xc, he, hx3, g3⟩ => ?_
    have hx3' : BtT w3 xo xc [97, 98] := hx3
    refine ⟨xo, xc, he, tn G2 g3, ?_⟩
    have c4 := open_any w w3 bb bs bm B (key1 2) [] t none so 0 sc (hB2'.none g3) (tn G2 g3) hC (key1_length 2) (Bts.nil _) (hs2'.none g3).bts (by decide) (by omega) hok htx
    rw [← hKB, ho2, htl] at c4
    refine c4.mono fun e w4 ⟨yo, yc, he, _, g4⟩ => ?_
    exact ⟨yo, yc, he, tn (tn G2 g3) g4, conv_str (hx3'.none g4).bts⟩
  have HPL := hide play
  have HB1 := hide hb1
  have HB2 := hide hb2
  clear play hb1 hb2 hKA hKB hT hC
  go_enter Tryd.func10, Tryd.ntmps10
  go_wp2
  go_loopw [1] (fun i wr => ∃ m : Nat, m ≤ 2 ∧ i = .int .i64 m ∧ w.grownBy wr none) (fun i _ => 2 - (intOf i).toNat)
  case atStart => exact ⟨0, by omega, rfl, gb_refl _ _⟩
  case round =>
    obtain ⟨m, hm, rfl, hg⟩ := hrel
    by_cases hlt : m < 2
    · have hm2 : m = 0 ∨ m = 1 := by omega
      have hmi : (m : Int) < 2 := by omega
      have hwm : IntKind.i64.wrap ((m : Int) + 1) = (m : Int) + 1 := by rw [IntKind.wrap_i64]; omega
      have cd := cdn wr hg
      have HM := hide hm2
      clear cdn hm hm2 hg
      go_upto_region 4 with fail
      refine region_named fun O hO => ?_
      refine wpList_val (by rw [hO]; kernel_rfl) (.int .i64 (m : Int)) (fun K9 hK9 => by go_simp; exact hK9) ?_
      (try simp only [Act.put, List.setIfInBounds_toArray, List.set_cons_zero, List.set_cons_succ])
      refine wpList_want (by rw [hO]; kernel_rfl) fun K9 hK9 => ?_
      go_simp
      go_at_call 9
      refine (cd).mono ?_
      rintro e w1 ⟨bs, rfl, hbs, hS1, g1⟩
      clear cd
      refine hK9 _ _ ?_
      clear hK9 K9
      (try simp only [Act.put, List.setIfInBounds_toArray, List.set_cons_zero, List.set_cons_succ])
      refine wpList_want (by rw [hO]; kernel_rfl) fun K9 hK9 => ?_
      go_simp
      go_at_call 8
      refine (unhide HPL m (unhide HM) w1 bs g1 hbs hS1).mono ?_
      rintro e w2 ⟨bb, rfl, g2, pl2⟩
      clear hS1 g1
      refine hK9 _ _ ?_
      clear hK9 K9
      (try simp only [Act.put, List.setIfInBounds_toArray, List.set_cons_zero, List.set_cons_succ])
      refine wpList_val (by rw [hO]; kernel_rfl) (.tuple #[.pointer (some ⟨bb, 0, none⟩), .int .i64 0]) (fun K9 hK9 => by go_simp; exact hK9) ?_
      (try simp only [Act.put, List.setIfInBounds_toArray, List.set_cons_zero, List.set_cons_succ])
      refine wpList_val (by rw [hO]; kernel_rfl) (.pointer (some ⟨bb, 0, none⟩)) (fun K9 hK9 => by go_simp; exact hK9) ?_
      (try simp only [Act.put, List.setIfInBounds_toArray, List.set_cons_zero, List.set_cons_succ])
      refine wpList_val (by rw [hO]; kernel_rfl) (.int .i64 0) (fun K9 hK9 => by go_simp; exact hK9) ?_
      (try simp only [Act.put, List.setIfInBounds_toArray, List.set_cons_zero, List.set_cons_succ])
      refine wpList_val (by rw [hO]; kernel_rfl) (.pointer (some ⟨bb, 0, none⟩)) (fun K9 hK9 => by go_simp; exact hK9) ?_
      (try simp only [Act.put, List.setIfInBounds_toArray, List.set_cons_zero, List.set_cons_succ])
      refine wpList_val (by rw [hO]; kernel_rfl) (.int .i64 0) (fun K9 hK9 => by go_simp; exact hK9) ?_
      (try simp only [Act.put, List.setIfInBounds_toArray, List.set_cons_zero, List.set_cons_succ])
      go_upto_region 5 with fail
      refine region_named fun O hO => ?_
      refine wpList_val (by rw [hO]; kernel_rfl) (.pointer (some ⟨bb, 0, none⟩)) (fun K9 hK9 => by go_simp; exact hK9) ?_
      (try simp only [Act.put, List.setIfInBounds_toArray, List.set_cons_zero, List.set_cons_succ])
      refine wpList_built rfl 37 _ rfl KA (by simpa [Act.eval] using unhide HB1) ?_
      (try simp only [Act.put, List.setIfInBounds_toArray, List.set_cons_zero, List.set_cons_succ])
      refine wpList_want (by rw [hO]; kernel_rfl) fun K9 hK9 => ?_
      go_simp
      refine hK9 _ _ ?_
      clear hK9 K9
      (try simp only [Act.put, List.setIfInBounds_toArray, List.set_cons_zero, List.set_cons_succ])
      skip
      refine wpList_want (by rw [hO]; kernel_rfl) fun K9 hK9 => ?_
      go_simp
      refine hK9 _ _ ?_
      clear hK9 K9
      (try simp only [Act.put, List.setIfInBounds_toArray, List.set_cons_zero, List.set_cons_succ])
      obtain ⟨W3, hW3, hab, g3⟩ := text_ab w2
      rw [← hW3]
      have cs3 := pl2 W3 _ g3 hab
      clear hW3 pl2 hab
      refine wpList_want (by rw [hO]; kernel_rfl) fun K9 hK9 => ?_
      go_simp
      go_at_call 12
      refine (cs3).mono ?_
      rintro e w4 ⟨so, sc, rfl, g4, co4⟩
      clear cs3
      refine hK9 _ _ ?_
      clear hK9 K9
      (try simp only [Act.put, List.setIfInBounds_toArray, List.set_cons_zero, List.set_cons_succ])
      refine wpList_val (by rw [hO]; kernel_rfl) (.tuple #[.slice so 30 sc, .int .i64 0]) (fun K9 hK9 => by go_simp; exact hK9) ?_
      (try simp only [Act.put, List.setIfInBounds_toArray, List.set_cons_zero, List.set_cons_succ])
      refine wpList_val (by rw [hO]; kernel_rfl) (.slice so 30 sc) (fun K9 hK9 => by go_simp; exact hK9) ?_
      (try simp only [Act.put, List.setIfInBounds_toArray, List.set_cons_zero, List.set_cons_succ])
      refine wpList_val (by rw [hO]; kernel_rfl) (.int .i64 0) (fun K9 hK9 => by go_simp; exact hK9) ?_
      (try simp only [Act.put, List.setIfInBounds_toArray, List.set_cons_zero, List.set_cons_succ])
      refine wpList_val (by rw [hO]; kernel_rfl) (.slice so 30 sc) (fun K9 hK9 => by go_simp; exact hK9) ?_
      (try simp only [Act.put, List.setIfInBounds_toArray, List.set_cons_zero, List.set_cons_succ])
      refine wpList_val (by rw [hO]; kernel_rfl) (.int .i64 0) (fun K9 hK9 => by go_simp; exact hK9) ?_
      (try simp only [Act.put, List.setIfInBounds_toArray, List.set_cons_zero, List.set_cons_succ])
      go_upto_region 6 with fail
      refine region_named fun O hO => ?_
      refine wpList_val (by rw [hO]; kernel_rfl) (.pointer (some ⟨bb, 0, none⟩)) (fun K9 hK9 => by go_simp; exact hK9) ?_
      (try simp only [Act.put, List.setIfInBounds_toArray, List.set_cons_zero, List.set_cons_succ])
      refine wpList_built rfl 37 _ rfl KA (by simpa [Act.eval] using unhide HB1) ?_
      (try simp only [Act.put, List.setIfInBounds_toArray, List.set_cons_zero, List.set_cons_succ])
      refine wpList_val (by rw [hO]; kernel_rfl) (.slice so 30 sc) (fun K9 hK9 => by go_simp; exact hK9) ?_
      (try simp only [Act.put, List.setIfInBounds_toArray, List.set_cons_zero, List.set_cons_succ])
      refine wpList_want (by rw [hO]; kernel_rfl) fun K9 hK9 => ?_
      go_simp
      go_at_call 14
      refine (co4).mono ?_
      rintro e w5 ⟨xo, xc, rfl, g5, co5⟩
      clear co4
      refine hK9 _ _ ?_
      clear hK9 K9
      (try simp only [Act.put, List.setIfInBounds_toArray, List.set_cons_zero, List.set_cons_succ])
      refine wpList_val (by rw [hO]; kernel_rfl) (.tuple #[.slice xo 2 xc, .bool true]) (fun K9 hK9 => by go_simp; exact hK9) ?_
      (try simp only [Act.put, List.setIfInBounds_toArray, List.set_cons_zero, List.set_cons_succ])
      refine wpList_val (by rw [hO]; kernel_rfl) (.slice xo 2 xc) (fun K9 hK9 => by go_simp; exact hK9) ?_
      (try simp only [Act.put, List.setIfInBounds_toArray, List.set_cons_zero, List.set_cons_succ])
      refine wpList_val (by rw [hO]; kernel_rfl) (.bool true) (fun K9 hK9 => by go_simp; exact hK9) ?_
      (try simp only [Act.put, List.setIfInBounds_toArray, List.set_cons_zero, List.set_cons_succ])
      refine wpList_val (by rw [hO]; kernel_rfl) (.slice xo 2 xc) (fun K9 hK9 => by go_simp; exact hK9) ?_
      (try simp only [Act.put, List.setIfInBounds_toArray, List.set_cons_zero, List.set_cons_succ])
      refine wpList_val (by rw [hO]; kernel_rfl) (.bool true) (fun K9 hK9 => by go_simp; exact hK9) ?_
      (try simp only [Act.put, List.setIfInBounds_toArray, List.set_cons_zero, List.set_cons_succ])
      go_upto_region 7 with fail
      refine region_named fun O hO => ?_
      refine wpList_val (by rw [hO]; kernel_rfl) (.pointer (some ⟨bb, 0, none⟩)) (fun K9 hK9 => by go_simp; exact hK9) ?_
      (try simp only [Act.put, List.setIfInBounds_toArray, List.set_cons_zero, List.set_cons_succ])
      refine wpList_built rfl 37 _ rfl KB (by simpa [Act.eval] using unhide HB2) ?_
      (try simp only [Act.put, List.setIfInBounds_toArray, List.set_cons_zero, List.set_cons_succ])
      refine wpList_val (by rw [hO]; kernel_rfl) (.slice so 30 sc) (fun K9 hK9 => by go_simp; exact hK9) ?_
      (try simp only [Act.put, List.setIfInBounds_toArray, List.set_cons_zero, List.set_cons_succ])
      refine wpList_want (by rw [hO]; kernel_rfl) fun K9 hK9 => ?_
      go_simp
      go_at_call 14
      refine (co5).mono ?_
      rintro e w8 ⟨yo, yc, rfl, g8, hcv⟩
      clear co5
      refine hK9 _ _ ?_
      clear hK9 K9
      (try simp only [Act.put, List.setIfInBounds_toArray, List.set_cons_zero, List.set_cons_succ])
      refine wpList_val (by rw [hO]; kernel_rfl) (.tuple #[.slice yo 0 yc, .bool false]) (fun K9 hK9 => by go_simp; exact hK9) ?_
      (try simp only [Act.put, List.setIfInBounds_toArray, List.set_cons_zero, List.set_cons_succ])
      refine wpList_val (by rw [hO]; kernel_rfl) (.slice yo 0 yc) (fun K9 hK9 => by go_simp; exact hK9) ?_
      (try simp only [Act.put, List.setIfInBounds_toArray, List.set_cons_zero, List.set_cons_succ])
      refine wpList_val (by rw [hO]; kernel_rfl) (.bool false) (fun K9 hK9 => by go_simp; exact hK9) ?_
      (try simp only [Act.put, List.setIfInBounds_toArray, List.set_cons_zero, List.set_cons_succ])
      refine wpList_val (by rw [hO]; kernel_rfl) (.slice yo 0 yc) (fun K9 hK9 => by go_simp; exact hK9) ?_
      (try simp only [Act.put, List.setIfInBounds_toArray, List.set_cons_zero, List.set_cons_succ])
      refine wpList_val (by rw [hO]; kernel_rfl) (.bool false) (fun K9 hK9 => by go_simp; exact hK9) ?_
      (try simp only [Act.put, List.setIfInBounds_toArray, List.set_cons_zero, List.set_cons_succ])
      go_upto_region 8 with fail
      refine region_named fun O hO => ?_
      refine wpList_val (by rw [hO]; kernel_rfl) (.int .i64 0) (fun K9 hK9 => by go_simp; exact hK9) ?_
      (try simp only [Act.put, List.setIfInBounds_toArray, List.set_cons_zero, List.set_cons_succ])
      refine wpList_val (by rw [hO]; kernel_rfl) (.bool false) (fun K9 hK9 => by go_simp; exact hK9) ?_
      (try simp only [Act.put, List.setIfInBounds_toArray, List.set_cons_zero, List.set_cons_succ])
      refine wpList_val (by rw [hO]; kernel_rfl) (.bool false) (fun K9 hK9 => by go_simp; exact hK9) ?_
      (try simp only [Act.put, List.setIfInBounds_toArray, List.set_cons_zero, List.set_cons_succ])
      refine wpList_val (by rw [hO]; kernel_rfl) (.int .i64 0) (fun K9 hK9 => by go_simp; exact hK9) ?_
      (try simp only [Act.put, List.setIfInBounds_toArray, List.set_cons_zero, List.set_cons_succ])
      refine wpList_val (by rw [hO]; kernel_rfl) (.bool false) (fun K9 hK9 => by go_simp; exact hK9) ?_
      (try simp only [Act.put, List.setIfInBounds_toArray, List.set_cons_zero, List.set_cons_succ])
      refine wpList_val (by rw [hO]; kernel_rfl) (.bool false) (fun K9 hK9 => by go_simp; exact hK9) ?_
      (try simp only [Act.put, List.setIfInBounds_toArray, List.set_cons_zero, List.set_cons_succ])
      refine wpList_val (by rw [hO]; kernel_rfl) (.bool false) (fun K9 hK9 => by go_simp; exact hK9) ?_
      (try simp only [Act.put, List.setIfInBounds_toArray, List.set_cons_zero, List.set_cons_succ])
      refine wpList_val (by rw [hO]; kernel_rfl) (.slice so 30 sc) (fun K9 hK9 => by go_simp; exact hK9) ?_
      (try simp only [Act.put, List.setIfInBounds_toArray, List.set_cons_zero, List.set_cons_succ])
      refine wpList_val (by rw [hO]; kernel_rfl) (.int .i64 30) (fun K9 hK9 => by go_simp; exact hK9) ?_
      (try simp only [Act.put, List.setIfInBounds_toArray, List.set_cons_zero, List.set_cons_succ])
      refine wpList_val (by rw [hO]; kernel_rfl) (.bool false) (fun K9 hK9 => by go_simp; exact hK9) ?_
      (try simp only [Act.put, List.setIfInBounds_toArray, List.set_cons_zero, List.set_cons_succ])
      refine wpList_val (by rw [hO]; kernel_rfl) (.bool false) (fun K9 hK9 => by go_simp; exact hK9) ?_
      (try simp only [Act.put, List.setIfInBounds_toArray, List.set_cons_zero, List.set_cons_succ])
      refine wpList_val (by rw [hO]; kernel_rfl) (.bool false) (fun K9 hK9 => by go_simp; exact hK9) ?_
      (try simp only [Act.put, List.setIfInBounds_toArray, List.set_cons_zero, List.set_cons_succ])
      refine wpList_val (by rw [hO]; kernel_rfl) (.bool true) (fun K9 hK9 => by go_simp; exact hK9) ?_
      (try simp only [Act.put, List.setIfInBounds_toArray, List.set_cons_zero, List.set_cons_succ])
      refine wpList_val (by rw [hO]; kernel_rfl) (.bool false) (fun K9 hK9 => by go_simp; exact hK9) ?_
      (try simp only [Act.put, List.setIfInBounds_toArray, List.set_cons_zero, List.set_cons_succ])
      refine wpList_val (by rw [hO]; kernel_rfl) (.bool false) (fun K9 hK9 => by go_simp; exact hK9) ?_
      (try simp only [Act.put, List.setIfInBounds_toArray, List.set_cons_zero, List.set_cons_succ])
      refine wpList_val (by rw [hO]; kernel_rfl) (.bool false) (fun K9 hK9 => by go_simp; exact hK9) ?_
      (try simp only [Act.put, List.setIfInBounds_toArray, List.set_cons_zero, List.set_cons_succ])
      refine wpList_val (by rw [hO]; kernel_rfl) (.slice xo 2 xc) (fun K9 hK9 => by go_simp; exact hK9) ?_
      (try simp only [Act.put, List.setIfInBounds_toArray, List.set_cons_zero, List.set_cons_succ])
      refine wpList_val (by rw [hO]; kernel_rfl) (.string { data := #[97, 98] }) (fun K9 hK9 => by go_simp; exact hK9) ?_
      (try simp only [Act.put, List.setIfInBounds_toArray, List.set_cons_zero, List.set_cons_succ])
      refine wpList_val (by rw [hO]; kernel_rfl) (.bool false) (fun K9 hK9 => by go_simp; exact hK9) ?_
      (try simp only [Act.put, List.setIfInBounds_toArray, List.set_cons_zero, List.set_cons_succ])
      refine wpList_val (by rw [hO]; kernel_rfl) (.bool false) (fun K9 hK9 => by go_simp; exact hK9) ?_
      (try simp only [Act.put, List.setIfInBounds_toArray, List.set_cons_zero, List.set_cons_succ])
      refine wpList_val (by rw [hO]; kernel_rfl) (.bool false) (fun K9 hK9 => by go_simp; exact hK9) ?_
      (try simp only [Act.put, List.setIfInBounds_toArray, List.set_cons_zero, List.set_cons_succ])
      refine wpList_val (by rw [hO]; kernel_rfl) (.bool false) (fun K9 hK9 => by go_simp; exact hK9) ?_
      (try simp only [Act.put, List.setIfInBounds_toArray, List.set_cons_zero, List.set_cons_succ])
      refine wpList_val (by rw [hO]; kernel_rfl) (.bool false) (fun K9 hK9 => by go_simp; exact hK9) ?_
      (try simp only [Act.put, List.setIfInBounds_toArray, List.set_cons_zero, List.set_cons_succ])
      clear kc HPL
      go_wp2
      go_roundw
      case rel => exact ⟨m + 1, by omega, by go_num, g8⟩
      case measure => simp [intOf]; omega
    · obtain rfl : m = 2 := by omega
      clear kc HPL cdn
      go_wp2
      go_ret
      exact ⟨rfl, hg⟩

end Go.Proofs.YtjckdgapefaokaaDoor

/- Two boxes side by side, and what the law of the mode Ideal lets them do: bounds, and a text that is turned in its place. No condition but those that each lemma names. -/
namespace Go.Proofs.YtjckdgapefaokaaDoor
open Go.RowKit

/-- At most 200. -/
def sh200 (n : Nat) : Nat := min n 200
theorem sh200_le (n : Nat) : sh200 n ≤ 200 := Nat.min_le_right _ _
theorem take200_length (l : List UInt8) : (l.take 200).length = sh200 l.length := by rw [List.length_take, Nat.min_comm]; rfl

theorem short8_min (w : World) (ao : Option Addr) (n c : Nat) (h : n ≤ c) : Calls Tryd.prog 11 #[.slice ao n c] w fun e w' => e = .returned (.slice ao (sh200 n) c) ∧ w' = w := by
  have := short8_any w ao c (List.replicate n 0) (by simpa using h)
  rw [take200_length, List.length_replicate] at this
  exact this

/-- New of one text. -/
theorem dnew_one (u V : World) (ao : Option Addr) (c : Nat) (F : List UInt8) (gV : u.grownBy V none) (hF : Bts u ao c F) (hT : Tabs u) (hl : F.length ≤ 1000) : ∃ W, W = V.alloc (.cells #[.slice ao F.length c] 22) ∧ u.grownBy W none ∧ V.grownBy W none ∧
    Calls Tryd.prog 9 #[.slice (some ⟨V.heap.size, 0, none⟩) 1 1] W fun e w' => ∃ b, e = .returned (.pointer (some ⟨b, 0, none⟩)) ∧ V.heap.size ≤ b ∧ SrcAt w' b F 0 ∧ V.grownBy w' none := by
  obtain ⟨W, hW, hB, g⟩ := alloc_one V (.slice ao F.length c)
  refine ⟨W, hW, tn gV g, g, ?_⟩
  have hL := lst_single hB ((hF.old gV).kept g (fun _ e => by cases e))
  have := dnew_any W _ 1 [F] hL (hT.kept0 (tn gV g)) (by simp; omega)
  rw [show ([F] : List (List UInt8)).flatten = F by simp, show ([F] : List (List UInt8)).length = 1 from rfl] at this
  exact this.mono fun e w' ⟨b, he, hb, hS, gg⟩ => ⟨b, he, Nat.le_trans g.size hb, hS, tn g gg⟩

theorem dnew_nil (u V : World) (gV : u.grownBy V none) (hT : Tabs u) : Calls Tryd.prog 9 #[.slice none 0 0] V fun e w' => ∃ b, e = .returned (.pointer (some ⟨b, 0, none⟩)) ∧ V.heap.size ≤ b ∧ SrcAt w' b [] 0 ∧ V.grownBy w' none :=
  dnew_any V none 0 [] ⟨(fun _ => ⟨rfl, rfl⟩), Nat.le_refl _, Nat.zero_le _, (fun _ e => by cases e), (fun _ e => by cases e)⟩ (hT.kept0 gV) (by simp)

theorem tries_bound (k be tx : List UInt8) : ∀ (n : Nat) (b : BoxS), (b.tries k be tx n).1.u ≤ b.u + n * (tx.length + 28) ∧ (b.tries k be tx n).1.L.length ≤ b.L.length + 1
  | 0, b => ⟨by simp [BoxS.tries], by simp [BoxS.tries]⟩
  | n + 1, b => by
    unfold BoxS.tries
    have e : (n + 1) * (tx.length + 28) = n * (tx.length + 28) + (tx.length + 28) := Nat.succ_mul _ _
    split
    · have := tries_bound k be tx n { b with u := b.u + (tx.length + 28) }
      simp only at this
      exact ⟨by omega, this.2⟩
    · simp only [List.length_append, List.length_cons, List.length_nil]
      exact ⟨by omega, by omega⟩

theorem seal_bound (b : BoxS) (k be tx : List UInt8) (ht : tx.length ≤ 200) : (b.seal k be tx).1.u ≤ b.u + 2000 ∧ (b.seal k be tx).1.L.length ≤ b.L.length + 1 ∧ (b.seal k be tx).1.mode = b.mode ∧ (b.seal k be tx).1.T = b.T := by
  unfold BoxS.seal
  split
  · simp only [List.length_append, List.length_cons, List.length_nil]
    exact ⟨by omega, by omega, trivial, trivial⟩
  · have h1 := tries_bound k be tx 8 b
    have h2 := BoxS.tries_kept k be tx 8 b
    exact ⟨by omega, h1.2, h2.1, h2.2⟩

theorem tries_tx (k be tx : List UInt8) (P : Ent → Prop) (hP : ∀ s, P ⟨s, k, be, tx⟩) : ∀ (n : Nat) (b : BoxS), (∀ x ∈ b.L, P x) → ∀ x ∈ (b.tries k be tx n).1.L, P x
  | 0, _, h => h
  | n + 1, b, h => by
    unfold BoxS.tries
    split
    · exact tries_tx k be tx P hP n _ h
    · intro x hx
      rcases List.mem_append.1 hx with hx | hx
      · exact h x hx
      · rw [List.mem_singleton.1 hx]; exact hP _

theorem seal_tx (b : BoxS) (k be tx : List UInt8) (ht : tx.length ≤ 2000) (h : ∀ x ∈ b.L, x.tx.length ≤ 2000) : ∀ x ∈ (b.seal k be tx).1.L, x.tx.length ≤ 2000 := by
  unfold BoxS.seal
  split
  · intro x hx
    rcases List.mem_append.1 hx with hx | hx
    · exact h x hx
    · rw [List.mem_singleton.1 hx]; exact Nat.zero_le _
  · exact tries_tx k be tx _ (fun _ => ht) 8 b h

/-- The first k bytes are turned. -/
def mixL (t : UInt8) (l : List UInt8) (k : Nat) : List UInt8 := (l.take k).map (· + t) ++ l.drop k
theorem mixL_zero (t : UInt8) (l : List UInt8) : mixL t l 0 = l := by simp [mixL]
theorem mixL_length (t : UInt8) (l : List UInt8) (k : Nat) : (mixL t l k).length = l.length := by simp [mixL]; omega
theorem mixL_at (t : UInt8) (l : List UInt8) (k : Nat) (h : k < l.length) : (mixL t l k)[k]? = some l[k] := by
  unfold mixL
  rw [List.getElem?_append_right (by simp; omega)]
  simp [h, Nat.min_eq_left (Nat.le_of_lt h)]
theorem mixL_succ (t : UInt8) (l : List UInt8) (k : Nat) (h : k < l.length) : (mixL t l k).set k (l[k] + t) = mixL t l (k + 1) := by
  unfold mixL
  have hl : ((l.take k).map (· + t)).length = k := by simp; omega
  rw [List.set_append_right _ _ (by omega), hl, Nat.sub_self, List.drop_eq_getElem_cons h, List.set_cons_zero, List.take_succ_eq_append_getElem h]
  simp only [List.map_append, List.map_cons, List.map_nil, List.append_assoc, List.cons_append, List.nil_append]

/-- A byte of a row of one's own, written. -/
theorem own_set {w : World} {base n cap g : Nat} {xs : List Value} (h : w.ownsRow base 5 1 (.slice (some ⟨g, 0, none⟩) n cap) n xs) (k : Nat) (v : Value) :
    (w.setCell ⟨g, k, none⟩ v).ownsRow base 5 1 (.slice (some ⟨g, 0, none⟩) n cap) n (xs.set k v) := by
  obtain ⟨h1, h2⟩ := h
  refine ⟨by rw [List.length_set]; exact h1, ?_⟩
  rcases h2 with ⟨h2, _⟩ | ⟨g', cap', cur, hv, hg, hh, h3, h4, h5, h6⟩
  · cases h2
  · cases hv
    refine Or.inr ⟨g, cap, cur.setIfInBounds k v, rfl, hg, ?_, h3, h4, by simpa using h5, ?_⟩
    · simp [World.setCell, Array.getElem?_modify, hh]
    · rw [← h6, Array.toList_setIfInBounds, List.take_set]

theorem own_there {w : World} {base n cap g : Nat} {xs : List Value} (h : w.ownsRow base 5 1 (.slice (some ⟨g, 0, none⟩) n cap) n xs) (k : Nat) (v : Value) (hk : xs[k]? = some v) : w.cell? ⟨g, k, none⟩ = some v ∧ w.frozen? ⟨g, k, none⟩ = false := by
  obtain ⟨h1, h2⟩ := h
  rcases h2 with ⟨h2, _⟩ | ⟨g', cap', cur, hv, hg, hh, h3, h4, h5, h6⟩
  · cases h2
  · cases hv
    refine ⟨?_, by simp [World.frozen?, hh]⟩
    rw [cell_of_row w g k _ _ _ hh]
    rw [← h6] at hk
    rw [List.getElem?_take] at hk
    split at hk
    · simpa using hk
    · cases hk

theorem u8_add (x y : UInt8) : IntKind.u8.wrap (((x.toNat : Nat) : Int) + ((y.toNat : Nat) : Int)) = (((x + y).toNat : Nat) : Int) := by
  show ((((x.toNat : Nat) : Int) + ((y.toNat : Nat) : Int)) % 256) = _
  rw [UInt8.toNat_add]
  omega

end Go.Proofs.YtjckdgapefaokaaDoor

/- BoxPlays' walk where there is no such mode: New tells the error, and no box. For any other number, first bytes and steps. -/
namespace Go.Proofs.YtjckdgapefaokaaDoor
open Go.RowKit

set_option maxRecDepth 100000 in
set_option maxHeartbeats 4000000 in
theorem boxPlays_no (w : World) (mz : Int) (hm0 : mz ≠ 0) (hm1 : mz ≠ 1) (a0 : Option Addr) (n0 c0 : Nat) (F : List UInt8) (hF : Bts w a0 c0 F) (LV : Value) (hT : Tabs w) (hC : CTab w)
    (hn : (n0 = F.length ∧ n0 ≤ 300) ∨ (300 < n0 ∧ F.length = 300 ∧ n0 ≤ c0)) :
    Calls Tryd.prog 3 #[.int .i64 mz, .slice a0 n0 c0, LV] w fun e w' => e = .returned (.bool true) ∧ w.grownBy w' none := by
  have cnew1 : ∀ V, w.grownBy V none → ∃ W, W = V.alloc (.cells #[.slice a0 F.length c0] 22) ∧ w.grownBy W none ∧ V.grownBy W none ∧ Calls Tryd.prog 9 #[.slice (some ⟨V.heap.size, 0, none⟩) 1 1] W fun e w' => ∃ b, e = .returned (.pointer (some ⟨b, 0, none⟩)) ∧ V.heap.size ≤ b ∧ SrcAt w' b F 0 ∧ V.grownBy w' none := fun V gV => dnew_one w V a0 c0 F gV hF hT (by omega)
  have cone : ∀ V, w.grownBy V none → Calls Tryd.prog 10 #[] V fun e w' => e = .returned (.bool true) ∧ V.grownBy w' none := fun V gV => bone_any V (hT.kept0 gV) (hC.kept0 gV)
  have e0 : (mz != 0) = true := by simpa using hm0
  have e1 : (mz != 1) = true := by simpa using hm1
  obtain ⟨nF, hnF⟩ : ∃ n, n = F.length := ⟨_, rfl⟩
  simp only [← hnF] at cnew1 hn
  have HN1 := hide cnew1
  have HON := hide cone
  clear cnew1 cone hnF hF hT hC
  go_enter Tryd.func3, Tryd.ntmps3
  go_upto_if 27 with fail
  go_cut [1] (fun x1 wx => x1 = .slice a0 nF c0 ∧ wx = w)
  case first =>
    rcases hn with ⟨rfl, h300⟩ | ⟨h300, rfl, hc300⟩
    · have h301 : ¬ (300 : Int) < (n0 : Int) := by omega
      go_wp2
      go_meet
      case rel => exact ⟨rfl, rfl⟩
    · have h301 : (300 : Int) < (n0 : Int) := by omega
      have hto : ∀ W, (Instr.slice 22 (.slice a0 n0 c0) none (some (.int .i64 300)) none).run Tryd.prog W = .ok (.slice a0 300 c0) W := fun W => slice_to (P := Tryd.prog) W 22 5 Tryd.underlying22 size_byte a0 n0 c0 300 (by omega)
      go_wp2
      go_meet
      case rel => exact ⟨rfl, rfl⟩
  case rest =>
    obtain ⟨rfl, e9⟩ := hcut
    subst wc
    clear hn
    have G0 : w.grownBy w none := gb_refl _ _
    go_upto_region 3 with fail
    refine region_named fun O hO => ?_
    refine wpList_val (by rw [hO]; kernel_rfl) (.int .i64 mz) (fun K9 hK9 => by go_simp; exact hK9) ?_
    (try simp only [Act.put, List.setIfInBounds_toArray, List.set_cons_zero, List.set_cons_succ])
    refine wpList_val (by rw [hO]; kernel_rfl) (.slice a0 nF c0) (fun K9 hK9 => by go_simp; exact hK9) ?_
    (try simp only [Act.put, List.setIfInBounds_toArray, List.set_cons_zero, List.set_cons_succ])
    refine wpList_want (by rw [hO]; kernel_rfl) fun K9 hK9 => ?_
    go_simp
    refine hK9 _ _ ?_
    clear hK9 K9
    (try simp only [Act.put, List.setIfInBounds_toArray, List.set_cons_zero, List.set_cons_succ])
    obtain ⟨Wn, hWn, Gn, gn, cn9⟩ := unhide HN1 w G0
    rw [← hWn]
    clear hWn
    refine wpList_want (by rw [hO]; kernel_rfl) fun K9 hK9 => ?_
    go_simp
    go_at_call 9
    refine (cn9).mono ?_
    rintro e w4 ⟨bs, rfl, hbs, hS4, g4⟩
    clear cn9 Gn gn Wn
    have G4 := tn G0 g4
    refine hK9 _ _ ?_
    clear hK9 K9
    (try simp only [Act.put, List.setIfInBounds_toArray, List.set_cons_zero, List.set_cons_succ])
    refine wpList_want (by rw [hO]; kernel_rfl) fun K9 hK9 => ?_
    go_simp
    go_at_call 8
    refine (new_arg w4 mz (some ⟨bs, 0, none⟩) hm0 hm1).mono ?_
    rintro e w5 ⟨rfl, e5⟩
    subst w5
    refine hK9 _ _ ?_
    clear hK9 K9
    (try simp only [Act.put, List.setIfInBounds_toArray, List.set_cons_zero, List.set_cons_succ])
    refine wpList_val (by rw [hO]; kernel_rfl) (.tuple #[.pointer none, .int .i64 2]) (fun K9 hK9 => by go_simp; exact hK9) ?_
    (try simp only [Act.put, List.setIfInBounds_toArray, List.set_cons_zero, List.set_cons_succ])
    refine wpList_val (by rw [hO]; kernel_rfl) (.pointer none) (fun K9 hK9 => by go_simp; exact hK9) ?_
    (try simp only [Act.put, List.setIfInBounds_toArray, List.set_cons_zero, List.set_cons_succ])
    refine wpList_val (by rw [hO]; kernel_rfl) (.int .i64 2) (fun K9 hK9 => by go_simp; exact hK9) ?_
    (try simp only [Act.put, List.setIfInBounds_toArray, List.set_cons_zero, List.set_cons_succ])
    refine wpList_val (by rw [hO]; kernel_rfl) (.pointer none) (fun K9 hK9 => by go_simp; exact hK9) ?_
    (try simp only [Act.put, List.setIfInBounds_toArray, List.set_cons_zero, List.set_cons_succ])
    refine wpList_val (by rw [hO]; kernel_rfl) (.int .i64 2) (fun K9 hK9 => by go_simp; exact hK9) ?_
    (try simp only [Act.put, List.setIfInBounds_toArray, List.set_cons_zero, List.set_cons_succ])
    go_upto_region 4 with fail
    refine region_named fun O hO => ?_
    refine wpList_val (by rw [hO]; kernel_rfl) (.int .i64 mz) (fun K9 hK9 => by go_simp; exact hK9) ?_
    (try simp only [Act.put, List.setIfInBounds_toArray, List.set_cons_zero, List.set_cons_succ])
    refine wpList_val (by rw [hO]; kernel_rfl) (.bool true) (fun K9 hK9 => by go_simp; exact hK9) ?_
    (try simp only [Act.put, List.setIfInBounds_toArray, List.set_cons_zero, List.set_cons_succ])
    refine wpList_val (by rw [hO]; kernel_rfl) (.bool true) (fun K9 hK9 => by go_simp; exact hK9) ?_
    (try simp only [Act.put, List.setIfInBounds_toArray, List.set_cons_zero, List.set_cons_succ])
    refine wpList_val (by rw [hO]; kernel_rfl) (.int .i64 mz) (fun K9 hK9 => by go_simp; exact hK9) ?_
    (try simp only [Act.put, List.setIfInBounds_toArray, List.set_cons_zero, List.set_cons_succ])
    refine wpList_val (by rw [hO]; kernel_rfl) (.bool true) (fun K9 hK9 => by go_simp; exact hK9) ?_
    (try simp only [Act.put, List.setIfInBounds_toArray, List.set_cons_zero, List.set_cons_succ])
    refine wpList_val (by rw [hO]; kernel_rfl) (.bool true) (fun K9 hK9 => by go_simp; exact hK9) ?_
    (try simp only [Act.put, List.setIfInBounds_toArray, List.set_cons_zero, List.set_cons_succ])
    go_upto_region 5 with fail
    refine region_named fun O hO => ?_
    refine wpList_val (by rw [hO]; kernel_rfl) (.pointer none) (fun K9 hK9 => by go_simp; exact hK9) ?_
    (try simp only [Act.put, List.setIfInBounds_toArray, List.set_cons_zero, List.set_cons_succ])
    refine wpList_val (by rw [hO]; kernel_rfl) (.bool true) (fun K9 hK9 => by go_simp; exact hK9) ?_
    (try simp only [Act.put, List.setIfInBounds_toArray, List.set_cons_zero, List.set_cons_succ])
    refine wpList_val (by rw [hO]; kernel_rfl) (.bool true) (fun K9 hK9 => by go_simp; exact hK9) ?_
    (try simp only [Act.put, List.setIfInBounds_toArray, List.set_cons_zero, List.set_cons_succ])
    refine wpList_val (by rw [hO]; kernel_rfl) (.int .i64 2) (fun K9 hK9 => by go_simp; exact hK9) ?_
    (try simp only [Act.put, List.setIfInBounds_toArray, List.set_cons_zero, List.set_cons_succ])
    refine wpList_val (by rw [hO]; kernel_rfl) (.bool true) (fun K9 hK9 => by go_simp; exact hK9) ?_
    (try simp only [Act.put, List.setIfInBounds_toArray, List.set_cons_zero, List.set_cons_succ])
    refine wpList_val (by rw [hO]; kernel_rfl) (.bool true) (fun K9 hK9 => by go_simp; exact hK9) ?_
    (try simp only [Act.put, List.setIfInBounds_toArray, List.set_cons_zero, List.set_cons_succ])
    refine wpList_val (by rw [hO]; kernel_rfl) (.bool true) (fun K9 hK9 => by go_simp; exact hK9) ?_
    (try simp only [Act.put, List.setIfInBounds_toArray, List.set_cons_zero, List.set_cons_succ])
    refine wpList_want (by rw [hO]; kernel_rfl) fun K9 hK9 => ?_
    go_simp
    go_at_call 10
    refine (unhide HON w4 G4).mono ?_
    rintro e w9 ⟨rfl, g9⟩
    refine hK9 _ _ ?_
    clear hK9 K9
    (try simp only [Act.put, List.setIfInBounds_toArray, List.set_cons_zero, List.set_cons_succ])
    refine wpList_val (by rw [hO]; kernel_rfl) (.bool true) (fun K9 hK9 => by go_simp; exact hK9) ?_
    (try simp only [Act.put, List.setIfInBounds_toArray, List.set_cons_zero, List.set_cons_succ])
    refine wpList_val (by rw [hO]; kernel_rfl) (.bool true) (fun K9 hK9 => by go_simp; exact hK9) ?_
    (try simp only [Act.put, List.setIfInBounds_toArray, List.set_cons_zero, List.set_cons_succ])
    go_wp2
    go_ret
    exact ⟨rfl, tn G4 g9⟩

end Go.Proofs.YtjckdgapefaokaaDoor
