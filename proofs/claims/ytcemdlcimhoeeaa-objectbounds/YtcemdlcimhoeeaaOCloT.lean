/- What TreeOf's closure does: it reads the entries, keeps them, and makes the tree again. Of data of at most 1000000 bytes. -/
import Derived.Test.YtcemdlcimhoeeaaORdP
import Derived.Test.YtcemdlcimhoeeaaOMrk
namespace Go.Proofs.Ytcemdlcimhoeeaa
open Go.RowKit

/-- What such a closure answers: by what is made again. -/
def Again (u w' : World) (K : Int) (r : Int × List UInt8) (R : World → Prop) (e : Ending) : Prop :=
  ∃ v, e = .returned (.tuple #[.agg #[.int .i64 (if r.1 = 0 then K else 0), v], .int .i64 r.1]) ∧ (∃ a' c', v = .slice a' r.2.length c' ∧ Bts w' a' c' r.2) ∧ R w' ∧ u.grownBy w' none

/-- The entries that were read lie there. -/
def KeptT (u : World) (vb : Nat) (es : List EntL) (w : World) : Prop := ∃ v, Blk w vb 22 [v] ∧ w.ownsRow u.heap.size 32 34 v es.length (es.flatMap enC)

theorem KeptT.none {u : World} {vb : Nat} {es : List EntL} {a b : World} (h : KeptT u vb es a) (g : a.grownBy b none) : KeptT u vb es b := by
  obtain ⟨v, h1, h2⟩ := h
  exact ⟨v, h1.kept g (by simp), own_ent h2 g (fun x e => by cases e)⟩

theorem readT_names (d : List UInt8) : ∀ e ∈ readT d, e.name.length ≤ d.length := by
  intro e he
  exact Nat.le_trans (runE_names _ _ e he) (numS_len _ _ _)
theorem readT_ids (d : List UInt8) : ∀ e ∈ readT d, e.id.length = 32 := fun e he => runE_ids _ _ e he

set_option maxRecDepth 100000 in
set_option maxHeartbeats 2000000 in
theorem cloT_any (u w : World) (rb vb : Nat) (d : List UInt8) (hl : d.length ≤ 1000000) (old : Value) (gu : u.grownBy w none) (hv : u.heap.size ≤ vb) (hr : u.heap.size ≤ rb) (hne : rb ≠ vb) (hR : Rd w rb d 0) (hB : Blk w vb 22 [old]) (bk : Nat) (bc : List Value) (hbk : Blk w bk 35 bc) (hkr : bk ≠ rb) (hkv : bk ≠ vb) :
    Calls Try.prog 88 #[.pointer (some ⟨rb, 0, none⟩), .pointer (some ⟨vb, 0, none⟩)] w fun e w' => Again u w' 2 (ofTree (readT d)) (fun V => KeptT u vb (readT d) V ∧ Blk V bk 35 bc) e := by
  have hvl := hB.lt
  have hbl := hbk.lt
  have hrl := hR.lt
  obtain ⟨W1, hW1, hB1, g1⟩ : ∃ W1, W1 = w.alloc (.cells #[.int .i64 0, .slice none 0 0] 35) ∧ Blk W1 w.heap.size 35 [.int .i64 0, .slice none 0 0] ∧ w.grownBy W1 none := box_new w _ _
  have cr := readEnts_any W1 rb d hl (hR.kept g1 (Or.inl rfl))
  have hnm := readT_names d
  have hid := readT_ids d
  obtain ⟨es, hes⟩ : ∃ es, es = readT d := ⟨_, rfl⟩
  rw [← hes] at cr hnm hid ⊢
  have HW1 := hide hW1
  have HNM := hide hnm
  have HID := hide hid
  have HBV := hide (hB.kept g1 (by simp))
  have HB1 := hide hB1
  have HK := hide (hbk.kept g1 (by simp))
  have HG1 := hide (tn gu g1)
  have hus : u.heap.size ≤ w.heap.size := gu.size
  clear hW1 hnm hid hB g1 hR hes hB1 gu hbk
  go_enter Try.func88, Try.ntmps88
  go_wp2_with (rw [← unhide HW1])
  refine cr.mono ?_
  rintro e w2 ⟨v2, rfl, ho2, g2⟩
  have hs1 : w.heap.size < W1.heap.size := (unhide HB1).lt
  obtain ⟨ao, c, hv2⟩ := own_sl ho2
  subst hv2
  have hBv := (unhide HBV).kept g2 (by simp; omega)
  have hBo := (unhide HB1).kept g2 (by simp; omega)
  have hK2 := (unhide HK).kept g2 (by simpa using hkr)
  have G2 : u.grownBy w2 none := gb_trans (unhide HG1) g2 (fun x e => by cases e; exact Or.inl hr)
  have ho2' := own_low ho2 (unhide HG1).size
  have hc2 := hBv.cell 0
  simp only [List.getElem?_cons_zero] at hc2
  have hf2 := hBv.fz 0
  obtain ⟨w3, hw3⟩ : ∃ V, V = w2.setCell ⟨vb, 0, none⟩ (.slice ao es.length c) := ⟨_, rfl⟩
  have hB3 : Blk w3 vb 22 [.slice ao es.length c] := by rw [hw3]; exact hBv.set 0 _
  have hA3 : Blk w3 w.heap.size 35 [.int .i64 0, .slice none 0 0] := by rw [hw3]; exact hBo.other _ _ (by simp; omega)
  have hO3 : w3.ownsRow u.heap.size 32 34 (.slice ao es.length c) es.length (es.flatMap enC) := by rw [hw3]; exact own_set_id ho2' hBv (by decide) 0 _
  have G3 : u.grownBy w3 none := by rw [hw3]; exact gb_setCell G2 _ _ (Or.inl hv)
  have hc3 := hB3.cell 0
  simp only [List.getElem?_cons_zero] at hc3
  have hE3 : Ens w3 ao c es := by
    obtain ⟨ao2, c2, e1, e2⟩ := Ens.own hO3 (unhide HID)
    injection e1 with e3 e4 e5
    subst e3 e5
    exact e2
  have co := ofTree_any w3 ao c es hE3 (fun e he => Nat.le_trans (unhide HNM e he) (by omega))
  obtain ⟨r, hrr⟩ : ∃ r, r = ofTree es := ⟨_, rfl⟩
  rw [← hrr] at co
  have HR := hide hrr
  have HW3 := hide hw3
  have HB3 := hide hB3
  have HA3 := hide hA3
  have HO3 := hide hO3
  have HK3 := hide (show Blk w3 bk 35 bc by rw [hw3]; exact hK2.other _ _ (by simpa using hkv.symm))
  have HG3 := hide G3
  clear cr ho2 ho2' hBv hBo G2 hw3 hB3 hA3 hO3 G3 hE3 g2 hrr HG1 HB1 HBV hK2
  go_wp2_with (rw [← unhide HW3])
  refine co.mono ?_
  rintro e w4 ⟨v4, rfl, hN4, g4⟩
  have hA4 := (unhide HA3).kept g4 (by simp)
  have hK4 := (unhide HK3).kept g4 (by simp)
  have hB4 := (unhide HB3).kept g4 (by simp)
  have hO4 := own_ent (unhide HO3) g4 (fun x e => by cases e)
  have G4 := tn (unhide HG3) g4
  have h1c : v4.oneCell' = true := by obtain ⟨_, _, rfl, _⟩ := hN4; rfl
  obtain ⟨x, hx⟩ : ∃ x : Int, x = r.1 := ⟨_, rfl⟩
  rw [← hx]
  obtain ⟨K, hK⟩ : ∃ K : Int, K = (if x = 0 then 2 else 0) := ⟨_, rfl⟩
  rw [← hK]
  have HKK := hide hK
  have HX := hide hx
  clear co hK hx hc2 hf2 hc3
  go_wp2_with (refine wpList_store_row rfl 35 _ _ rfl w.heap.size #[.int .i64 K, v4] rfl rfl _ _ hA4 info_obj rfl (obj_one h1c) ?_)
  refine bodyPost_ret (results_row_tmp rfl _ _ _ _ _ _ _ rfl (hA4.row [.int .i64 K, v4]) Try.underlying35 rfl info_obj) rfl ?_
  have gF := gb_row (gb_refl w4 (some w.heap.size)) #[.int .i64 K, v4] (Or.inr rfl)
  rw [← unhide HR]
  refine ⟨v4, ?_, ?_, ⟨⟨_, hB4.row_other _ _ (by omega), own_row_id hO4 hA4 (by decide) _⟩, hK4.row_other _ _ (by omega)⟩, gb_row G4 _ (Or.inl hus)⟩
  · rw [← unhide HX, ← unhide HKK]
    rfl
  · obtain ⟨a', c', e1, e2, e3⟩ := hN4
    refine ⟨a', c', e1, e2.kept gF ?_⟩
    intro x e ad e5 e4
    cases e
    exact hA4.typ (by decide) (e4 ▸ (e3 ad e5).2)

end Go.Proofs.Ytcemdlcimhoeeaa
