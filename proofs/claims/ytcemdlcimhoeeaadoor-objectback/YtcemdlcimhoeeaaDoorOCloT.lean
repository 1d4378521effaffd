/- What object's OfMark answers. Of names of at most 100000 bytes, and texts of at most 1000000. -/
import Derived.Test.YtcemdlcimhoeeaaDoorOChgM
import Derived.Test.YtcemdlcimhoeeaaDoorORdP
namespace Go.Proofs.YtcemdlcimhoeeaaDoor
open Go.RowKit

set_option maxRecDepth 100000 in
set_option maxHeartbeats 4000000 in
theorem ofMrk_any (w : World) (m : MrkL) (ht : m.target.length = 32) (ha : m.name.length ≤ 100000) (hx : m.text.length ≤ 1000000) :
    Calls Tryd.prog 12 #[.agg (mkC m).toArray] w fun e w' => Made w w' 4 (ofMrk m) e := by
  obtain ⟨q1, q2⟩ := mkC_at m ht
  obtain ⟨C, hC⟩ : ∃ C, C = mkC m := ⟨_, rfl⟩
  rw [← hC] at q1 q2 ⊢
  obtain ⟨W0, hW0, hB0, g0⟩ := box_new w 30 C
  have hW1 : ∃ W1, W1 = W0.alloc (.cells #[.int .i64 0, .slice none 0 0] 34) ∧ Blk W1 (w.heap.size + 1) 34 [.int .i64 0, .slice none 0 0] ∧ W0.grownBy W1 none := by
    refine ⟨_, rfl, ?_, gb_alloc (gb_refl _ _) _⟩
    have hsz : W0.heap.size = w.heap.size + 1 := by rw [hW0]; simp
    rw [← hsz]
    exact Blk.new W0 _ _
  obtain ⟨W1, hW1, hB1, g1⟩ := hW1
  have hBC := hB0.kept g1 (by simp)
  have G1 := tn g0 g1
  have c1 : W1.cell? ⟨w.heap.size, 32, none⟩ = some (.string (str m.name)) := by rw [hBC.cell 32, q1]
  have c2 : W1.cell? ⟨w.heap.size, 33, none⟩ = some (.string (str m.text)) := by rw [hBC.cell 33, q2]
  have hW : W1 = (w.alloc (.cells C.toArray 30)).alloc (.cells #[.int .i64 0, .slice none 0 0] 34) := by rw [hW1, hW0]
  have hrT : W1.rangeAt w.heap.size 0 (m.target.map bv) := by
    have := blk_all hBC
    rw [hC] at this
    exact mk_target this
  have ck := kind_any W1 m.name ha
  have hiT : (Tryd.prog.info? 24).map (·.size) = some (m.target.map bv).length := by rw [List.length_map, ht]; exact info_id
  have hbt := built_chg3 m.target (str m.name) (str m.text) ht
  have cl : ∀ V, Calls Tryd.prog 29 #[.int .i64 4, .agg (m.target.map bv ++ ([.slice none 0 0, .int .u64 0, .string (str m.name), .string (str m.text)] : List Value)).toArray] V fun e w' => ∃ v, e = .returned v ∧ NewB V w' v (mrkB m) ∧ V.grownBy w' none := fun V => layMrk_any V m ht (by omega) hx
  obtain ⟨T, hT⟩ : ∃ T, T = m.target.map bv := ⟨_, rfl⟩
  obtain ⟨N, hN⟩ : ∃ N, N = str m.name := ⟨_, rfl⟩
  obtain ⟨X, hX⟩ : ∃ N, N = str m.text := ⟨_, rfl⟩
  rw [← hN] at c1 ck hbt cl
  rw [← hX] at c2 hbt cl
  rw [← hT] at hrT hiT hbt cl
  obtain ⟨CC, hCC⟩ : ∃ CC, CC = (T ++ ([.slice none 0 0, .int .u64 0, .string N, .string X] : List Value)).toArray := ⟨_, rfl⟩
  rw [← hCC] at hbt cl
  obtain ⟨k, hk⟩ : ∃ k, k = kindL m.name := ⟨_, rfl⟩
  rw [← hk] at ck
  have HW := hide hW
  have HI := hide hiT
  have HBT := hide hbt
  have HG1 := hide G1
  have HCL := hide cl
  clear hW1 hW0 g1 g0 hB0 q1 q2 hW hC hT hN hX hCC hBC hiT hbt G1 ht ha hx cl
  by_cases h2 : k = 2
  · have hres : ofMrk m = fitB (mrkB m) := by simp [ofMrk, ← hk, h2]
    subst h2
    have HRS := hide hres
    have HB1 := hide hB1
    clear hres hk hB1
    go_enter Tryd.func12, Tryd.ntmps12
    go_wp2_with (rw [← unhide HW])
    refine ck.mono ?_
    rintro e w2 ⟨rfl, g2⟩
    have d1 := g2.cell c1 (by simp)
    have d2 := g2.cell c2 (by simp)
    have hr2 := range_kept hrT g2 (by simp)
    have cl := unhide HCL w2
    clear ck c1 c2 hrT HCL
    go_wp2_with (first
      | (refine wpList_load_mid rfl 24 _ rfl w.heap.size 0 rfl T _ hr2 Tryd.underlying24 rfl (unhide HI) ?_; clear hr2)
      | (refine wpList_built rfl 28 _ rfl CC ?hbs ?_))
    case hbs => simpa using unhide HBT
    refine cl.mono ?_
    rintro e w3 ⟨v3, rfl, hN3, g3⟩
    have G := tn (unhide HG1) g2
    have hBr := ((unhide HB1).kept g2 (by simp)).kept g3 (by simp)
    have cm := made_fit w w3 4 v3 (mrkB m) (NewB.later hN3 G.size) (tn G g3)
    obtain ⟨r, hr⟩ : ∃ r, r = fitB (mrkB m) := ⟨_, rfl⟩
    rw [← hr] at cm
    have HRR := hide hr
    clear cl hN3 g3 hr d1 d2
    go_wp2_with fail
    refine cm.mono ?_
    rintro e w4 ⟨v4, x, rfl, hx, hN4, h1c, g4, gm⟩
    have hB2 := hBr.kept gm (by simp)
    have hrr : ofMrk m = r := by rw [unhide HRS, unhide HRR]
    have hfin := Made.laid (K := 4) hB2 (by decide) (Nat.le_succ _) hx hN4 g4
    obtain ⟨K, hK⟩ : ∃ K : Int, K = (if r.1 = 0 then 4 else 0) := ⟨_, rfl⟩
    rw [← hK] at hfin ⊢
    have HF := hide hfin
    have HRX := hide hrr
    clear cm hK hx hBr hfin hrr
    go_wp2_with (refine wpList_store_row rfl 34 _ _ rfl (w.heap.size + 1) #[.int .i64 K, v4] rfl rfl _ _ hB2 info_obj rfl (obj_one h1c) ?_)
    refine bodyPost_ret (results_row_tmp rfl _ _ _ _ _ _ _ rfl (hB2.row [.int .i64 K, v4]) Tryd.underlying34 rfl info_obj) rfl ?_
    rw [unhide HRX]
    exact unhide HF
  · have hres : ofMrk m = (2, []) := by simp [ofMrk, ← hk, h2]
    have hk2 : (k == 2) = false := by simpa using h2
    have HRS := hide hres
    clear hres hk
    go_enter Tryd.func12, Tryd.ntmps12
    go_wp2_with (rw [← unhide HW])
    refine ck.mono ?_
    rintro e w2 ⟨rfl, g2⟩
    have hBr := hB1.kept g2 (by simp)
    have hf0 := hBr.fz 0
    have hf1 := hBr.fz 1
    have hd0 := hBr.cell 0
    have hd1 := hBr.cell 1
    simp only [List.getElem?_cons_zero, List.getElem?_cons_succ] at hd0 hd1
    clear ck c1 c2 hrT
    go_wp2
    refine bodyPost_ret (results_row_tmp rfl _ _ _ _ _ _ _ rfl ((hBr.set 0 (.int .i64 0)).set 1 (.slice none 0 0)) Tryd.underlying34 rfl info_obj) rfl ?_
    exact Made.bad 4 (unhide HRS) (by decide) (gb_setCell (gb_setCell (tn (unhide HG1) g2) _ _ (Or.inl (Nat.le_succ _))) _ _ (Or.inl (Nat.le_succ _)))

end Go.Proofs.YtcemdlcimhoeeaaDoor

/- What TreeOf's closure does: it reads the entries, keeps them, and makes the tree again. Of data of at most 1000000 bytes. -/
namespace Go.Proofs.YtcemdlcimhoeeaaDoor
open Go.RowKit

/-- What such a closure answers: by what is made again. -/
def Again (u w' : World) (K : Int) (r : Int × List UInt8) (R : World → Prop) (e : Ending) : Prop :=
  ∃ v, e = .returned (.tuple #[.agg #[.int .i64 (if r.1 = 0 then K else 0), v], .int .i64 r.1]) ∧ (∃ a' c', v = .slice a' r.2.length c' ∧ Bts w' a' c' r.2) ∧ R w' ∧ u.grownBy w' none

/-- The entries that were read lie there. -/
def KeptT (u : World) (vb : Nat) (es : List EntL) (w : World) : Prop := ∃ v, Blk w vb 22 [v] ∧ w.ownsRow u.heap.size 41 34 v es.length (es.flatMap enC)

theorem KeptT.none {u : World} {vb : Nat} {es : List EntL} {a b : World} (h : KeptT u vb es a) (g : a.grownBy b none) : KeptT u vb es b := by
  obtain ⟨v, h1, h2⟩ := h
  exact ⟨v, h1.kept g (by simp), own_ent h2 g (fun x e => by cases e)⟩

theorem readT_names (d : List UInt8) : ∀ e ∈ readT d, e.name.length ≤ d.length := by
  intro e he
  exact Nat.le_trans (runE_names _ _ e he) (numS_len _ _ _)
theorem readT_ids (d : List UInt8) : ∀ e ∈ readT d, e.id.length = 32 := fun e he => runE_ids _ _ e he

set_option maxRecDepth 100000 in
set_option maxHeartbeats 2000000 in
theorem cloT_any (u w : World) (rb vb : Nat) (d : List UInt8) (hl : d.length ≤ 1000000) (old : Value) (gu : u.grownBy w none) (hv : u.heap.size ≤ vb) (hr : u.heap.size ≤ rb) (hne : rb ≠ vb) (hR : Rd w rb d 0) (hB : Blk w vb 22 [old]) (bk : Nat) (bc : List Value) (hbk : Blk w bk 34 bc) (hkr : bk ≠ rb) (hkv : bk ≠ vb) :
    Calls Tryd.prog 26 #[.pointer (some ⟨rb, 0, none⟩), .pointer (some ⟨vb, 0, none⟩)] w fun e w' => Again u w' 2 (ofTree (readT d)) (fun V => KeptT u vb (readT d) V ∧ Blk V bk 34 bc) e := by
  have hvl := hB.lt
  have hbl := hbk.lt
  have hrl := hR.lt
  obtain ⟨W1, hW1, hB1, g1⟩ : ∃ W1, W1 = w.alloc (.cells #[.int .i64 0, .slice none 0 0] 34) ∧ Blk W1 w.heap.size 34 [.int .i64 0, .slice none 0 0] ∧ w.grownBy W1 none := box_new w _ _
  have cr := readEnts_any W1 rb d hl (hR.kept g1 (Or.inl rfl))
  have hnm := readT_names d
  have hid := readT_ids d
  obtain ⟨es, hes⟩ : ∃ es, es = readT d := ⟨_, rfl⟩
  rw [← hes] at cr hnm hid ⊢
  have HW1 := hide hW1
  have HNM := hide hnm
  have HID := hide hid
  have HBV := hide (hB.kept g1 (by simp))
  have HB1 := hide hB1
  have HK := hide (hbk.kept g1 (by simp))
  have HG1 := hide (tn gu g1)
  have hus : u.heap.size ≤ w.heap.size := gu.size
  clear hW1 hnm hid hB g1 hR hes hB1 gu hbk
  go_enter Tryd.func26, Tryd.ntmps26
  go_wp2_with (rw [← unhide HW1])
  refine cr.mono ?_
  rintro e w2 ⟨v2, rfl, ho2, g2⟩
  have hs1 : w.heap.size < W1.heap.size := (unhide HB1).lt
  obtain ⟨ao, c, hv2⟩ := own_sl ho2
  subst hv2
  have hBv := (unhide HBV).kept g2 (by simp; omega)
  have hBo := (unhide HB1).kept g2 (by simp; omega)
  have hK2 := (unhide HK).kept g2 (by simpa using hkr)
  have G2 : u.grownBy w2 none := gb_trans (unhide HG1) g2 (fun x e => by cases e; exact Or.inl hr)
  have ho2' := own_low ho2 (unhide HG1).size
  have hc2 := hBv.cell 0
  simp only [List.getElem?_cons_zero] at hc2
  have hf2 := hBv.fz 0
  obtain ⟨w3, hw3⟩ : ∃ V, V = w2.setCell ⟨vb, 0, none⟩ (.slice ao es.length c) := ⟨_, rfl⟩
  have hB3 : Blk w3 vb 22 [.slice ao es.length c] := by rw [hw3]; exact hBv.set 0 _
  have hA3 : Blk w3 w.heap.size 34 [.int .i64 0, .slice none 0 0] := by rw [hw3]; exact hBo.other _ _ (by simp; omega)
  have hO3 : w3.ownsRow u.heap.size 41 34 (.slice ao es.length c) es.length (es.flatMap enC) := by rw [hw3]; exact own_set_id ho2' hBv (by decide) 0 _
  have G3 : u.grownBy w3 none := by rw [hw3]; exact gb_setCell G2 _ _ (Or.inl hv)
  have hc3 := hB3.cell 0
  simp only [List.getElem?_cons_zero] at hc3
  have hE3 : Ens w3 ao c es := by
    obtain ⟨ao2, c2, e1, e2⟩ := Ens.own hO3 (unhide HID)
    injection e1 with e3 e4 e5
    subst e3 e5
    exact e2
  have co := ofTree_any w3 ao c es hE3 (fun e he => Nat.le_trans (unhide HNM e he) (by omega))
  obtain ⟨r, hrr⟩ : ∃ r, r = ofTree es := ⟨_, rfl⟩
  rw [← hrr] at co
  have HR := hide hrr
  have HW3 := hide hw3
  have HB3 := hide hB3
  have HA3 := hide hA3
  have HO3 := hide hO3
  have HK3 := hide (show Blk w3 bk 34 bc by rw [hw3]; exact hK2.other _ _ (by simpa using hkv.symm))
  have HG3 := hide G3
  clear cr ho2 ho2' hBv hBo G2 hw3 hB3 hA3 hO3 G3 hE3 g2 hrr HG1 HB1 HBV hK2
  go_wp2_with (rw [← unhide HW3])
  refine co.mono ?_
  rintro e w4 ⟨v4, rfl, hN4, g4⟩
  have hA4 := (unhide HA3).kept g4 (by simp)
  have hK4 := (unhide HK3).kept g4 (by simp)
  have hB4 := (unhide HB3).kept g4 (by simp)
  have hO4 := own_ent (unhide HO3) g4 (fun x e => by cases e)
  have G4 := tn (unhide HG3) g4
  have h1c : v4.oneCell' = true := by obtain ⟨_, _, rfl, _⟩ := hN4; rfl
  obtain ⟨x, hx⟩ : ∃ x : Int, x = r.1 := ⟨_, rfl⟩
  rw [← hx]
  obtain ⟨K, hK⟩ : ∃ K : Int, K = (if x = 0 then 2 else 0) := ⟨_, rfl⟩
  rw [← hK]
  have HKK := hide hK
  have HX := hide hx
  clear co hK hx hc2 hf2 hc3
  go_wp2_with (refine wpList_store_row rfl 34 _ _ rfl w.heap.size #[.int .i64 K, v4] rfl rfl _ _ hA4 info_obj rfl (obj_one h1c) ?_)
  refine bodyPost_ret (results_row_tmp rfl _ _ _ _ _ _ _ rfl (hA4.row [.int .i64 K, v4]) Tryd.underlying34 rfl info_obj) rfl ?_
  have gF := gb_row (gb_refl w4 (some w.heap.size)) #[.int .i64 K, v4] (Or.inr rfl)
  rw [← unhide HR]
  refine ⟨v4, ?_, ?_, ⟨⟨_, hB4.row_other _ _ (by omega), own_row_id hO4 hA4 (by decide) _⟩, hK4.row_other _ _ (by omega)⟩, gb_row G4 _ (Or.inl hus)⟩
  · rw [← unhide HX, ← unhide HKK]
    rfl
  · obtain ⟨a', c', e1, e2, e3⟩ := hN4
    refine ⟨a', c', e1, e2.kept gF ?_⟩
    intro x e ad e5 e4
    cases e
    exact hA4.typ (by decide) (e4 ▸ (e3 ad e5).2)

end Go.Proofs.YtcemdlcimhoeeaaDoor
