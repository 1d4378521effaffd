/- What kdf's Mac answers: the HMAC of texts, one behind the other, by a key. Of a key of fewer than 2 to the 59 bytes, and of texts of fewer than 2 to the 58 together. -/
import Derived.Test.YtikdpifacokfpaaDoorKSumB
namespace Go.Proofs.YtikdpifacokfpaaDoor
open Go.RowKit

theorem lst_one {W1 : World} {ao : Option Addr} {ca : Nat} {a : List UInt8} (ha : Bts W1 ao ca a) (N : Nat) {t : TypeId} (hB : Blk W1 N t [.slice ao a.length ca]) :
    Lst W1 (some ⟨N, 0, none⟩) 1 [a] := by
  refine ⟨(fun e => by cases e), by simp, by unfold maxLen; omega, (fun ad e _ => by cases e; rfl), (fun ad e i hi => ?_)⟩
  cases e
  obtain rfl : i = 0 := by simpa using hi
  exact ⟨ao, ca, hB.cell 0, ha⟩

theorem bts_row {w : World} {b : Nat} {t : TypeId} {l : List UInt8} (h : Blk w b t (l.map bv)) (c : Nat) (hc : l.length ≤ c) (hm : c ≤ maxLen) : Bts w (some ⟨b, 0, none⟩) c l := by
  have : Blk w b t ([] ++ (l.map bv ++ [])) := by simpa using h
  exact bts_blk this c hc hm

/-- The block b is a row of n cells. -/
def RowL (V : World) (b : Nat) (t : TypeId) (n : Nat) : Prop := ∃ cs, Blk V b t cs ∧ cs.length = n
theorem RowL.drew {V : World} {b : Nat} {t : TypeId} {n : Nat} (h : RowL V b t n) : RowL V.drew b t n := by
  obtain ⟨cs, h1, h2⟩ := h
  exact ⟨cs, h1.drew, h2⟩
theorem RowL.alloc {V : World} {b : Nat} {t : TypeId} {n : Nat} (h : RowL V b t n) (o : Obj) : RowL (V.alloc o) b t n := by
  obtain ⟨cs, h1, h2⟩ := h
  exact ⟨cs, h1.alloc o, h2⟩
theorem RowL.kept {V U : World} {b : Nat} {t : TypeId} {n : Nat} (h : RowL V b t n) (g : V.grownBy U none) : RowL U b t n := by
  obtain ⟨cs, h1, h2⟩ := h
  exact ⟨cs, h1.kept g (by simp), h2⟩
theorem RowL.there {V : World} {b : Nat} {t : TypeId} {n : Nat} (h : RowL V b t n) : V.there b 0 n := by
  obtain ⟨cs, h1, h2⟩ := h
  exact h1.there 0 n (by omega)
theorem RowL.over {V : World} {b : Nat} {t : TypeId} {n : Nat} (h : RowL V b t n) (vs : List Value) (hv : vs.length = n) : Blk (V.setCells b 0 vs) b t vs := by
  obtain ⟨cs, h1, h2⟩ := h
  have h3 : Blk V b t (([] : List Value) ++ (cs ++ [])) := by simpa using h1
  have := Blk.setCells vs cs h3 (by omega)
  simpa using this
theorem RowL.set {V : World} {b : Nat} {t : TypeId} {n : Nat} (h : RowL V b t n) (vs : List Value) (hv : vs.length = n) : RowL (V.setCells b 0 vs) b t n := ⟨vs, h.over vs hv, hv⟩

set_option maxRecDepth 100000 in
set_option maxHeartbeats 2000000 in
theorem mac_any (w : World) (ko : Option Addr) (kc : Nat) (key : List UInt8) (hk : Bts w ko kc key) (ao : Option Addr) (c : Nat) (L : List (List UInt8)) (hL : Lst w ao c L) (hT : Tabs w) (hkl : key.length < 576460752303423488) (hlen : L.flatten.length < 288230376151711744) :
    Calls Tryd.prog 27 #[.slice ko key.length kc, .slice ao L.length c] w fun e w' => e = .returned (.agg ((macL key L.flatten).map bv).toArray) ∧ w.grownBy w' none := by
  have hi64 : (Tryd.prog.info? 27).map (·.size) = some 64 := by kernel_rfl
  have hi32 : (Tryd.prog.info? 22).map (·.size) = some 32 := by kernel_rfl
  obtain ⟨Z, hZ⟩ : ∃ Z : Array Value, Z = ((List.replicate 64 (0 : UInt8)).map bv).toArray := ⟨_, rfl⟩
  have hzv := zero64
  rw [← hZ] at hzv
  obtain ⟨Y, hY⟩ : ∃ Y : Array Value, Y = ((List.replicate 32 (0 : UInt8)).map bv).toArray := ⟨_, rfl⟩
  have hyv := zero32
  rw [← hY] at hyv
  obtain ⟨W1, hW1⟩ : ∃ W1, W1 = w.alloc (.cells Y 22) := ⟨_, rfl⟩
  have hg1 : w.grownBy W1 none := by rw [hW1]; exact gb_alloc (gb_refl _ _) _
  have hR1 : Blk W1 w.heap.size 22 ((List.replicate 32 (0 : UInt8)).map bv) := by rw [hW1, hY]; exact Blk.new w _ _
  have hkb := keyBlock_any W1 ko kc key (hk.kept hg1 (fun _ e => by cases e)) (hT.kept0 hg1) hkl
  obtain ⟨kb, hkb0⟩ : ∃ kb, kb = keyB key := ⟨_, rfl⟩
  rw [← hkb0] at hkb
  have hkbl : kb.length = 64 := by rw [hkb0]; exact keyB_length _
  have HW1 := hide hW1
  have HZ := hide hZ
  have HY := hide hY
  have HKB0 := hide hkb0
  have HKBL := hide hkbl
  have HT := hide hT
  have HL := hide hL
  have HLEN := hide hlen
  have HR1 := hide hR1
  clear hW1 hZ hY hkb0 hkbl hT hL hlen hR1 hk hkl
  go_enter Tryd.func27, Tryd.ntmps27
  go_wp2_with fail
  rw [← unhide HW1]
  refine hkb.mono ?_
  rintro e w2 ⟨rfl, g2⟩
  have hN2 : Blk (w2.alloc (.cells Z 27)) w2.heap.size 27 ((List.replicate 64 (0 : UInt8)).map bv) := by
    rw [unhide HZ]; exact Blk.new w2 27 _
  obtain ⟨W3, hW3⟩ : ∃ W3, W3 = (w2.alloc (.cells Z 27)).setRow w2.heap.size (kb.map bv).toArray := ⟨_, rfl⟩
  have hK3 : Blk W3 w2.heap.size 27 (kb.map bv) := by rw [hW3]; exact hN2.row _
  have g3 : w2.grownBy W3 none := by rw [hW3]; exact gb_row (gb_alloc (gb_refl _ _) _) _ (Or.inl (Nat.le_refl _))
  have G3 : w.grownBy W3 none := gb_trans hg1 (gb_trans g2 g3 (fun _ e => by cases e)) (fun _ e => by cases e)
  have hR3 := (unhide HR1).kept (gb_trans g2 g3 (fun _ e => by cases e)) (by simp)
  have hm3 := masked_any W3 kb 54 (unhide HKBL)
  rw [show (((54 : UInt8).toNat : Nat) : Int) = 54 from rfl] at hm3
  have hsz64 : ((kb.map bv).toArray).size = 64 := by simp [unhide HKBL]
  have HSZ := hide hsz64
  have HW3 := hide hW3
  have HN2 := hide hN2
  have HK3 := hide hK3
  have hge2 : W1.heap.size ≤ w2.heap.size := g2.size
  clear hkb hsz64 hW3 hN2 hK3 g2 g3 hg1
  go_wp2_with (first
    | (refine wpList_store_row rfl 27 _ _ rfl w2.heap.size _ rfl rfl _ _ (unhide HN2) ?_ ?_ ?_ ?_; (rw [unhide HSZ]; exact hi64); (rw [unhide HSZ]; rfl); (exact all_oneCell_toArray (bv_one _)); refine (show wpList _ _ _ _ _ W3 → _ from fun q => unhide HW3 ▸ q) ?_)
    | (refine wpList_load_row rfl 27 _ rfl w2.heap.size rfl _ _ _ _ (unhide HK3) Tryd.underlying27 rfl ?_ ?_; (rw [unhide HSZ]; exact hi64))
    | fail)
  refine hm3.mono ?_
  rintro e w4 ⟨rfl, g4⟩
  have G4 : w.grownBy w4 none := gb_trans G3 g4 (fun _ e => by cases e)
  have hsb := sumBehind_any w4 (maskL 54 kb) (by rw [maskL_length]; exact unhide HKBL) ao c L ⟨(unhide HL).zip, (unhide HL).fits, (unhide HL).most, (unhide HL).shape, fun ad e i hi => by
    obtain ⟨ai, ci, h1, h2⟩ := (unhide HL).cell ad e i hi
    exact ⟨ai, ci, G4.cell h1 (by simp), h2.kept G4 (fun _ e => by cases e)⟩⟩ ((unhide HT).kept0 G4) (unhide HLEN)
  obtain ⟨ik, hik⟩ : ∃ ik, ik = shaL (maskL 54 kb ++ L.flatten) := ⟨_, rfl⟩
  rw [← hik] at hsb
  have hikl : ik.length = 32 := by rw [hik]; exact shaL_length _
  have hK4 := (unhide HK3).kept g4 (by simp)
  have hR4 := hR3.kept g4 (by simp)
  have HIK := hide hik
  clear hm3 hik g4 G3 hR3 HK3
  go_wp2_with fail
  refine hsb.mono ?_
  rintro e w5 ⟨rfl, g5⟩
  have G5 : w.grownBy w5 none := gb_trans G4 g5 (fun _ e => by cases e)
  have hge5 : w2.heap.size ≤ w5.heap.size := by have := hK4.lt; have := g5.size; omega
  have hN5 : Blk (w5.alloc (.cells Y 22)) w5.heap.size 22 ((List.replicate 32 (0 : UInt8)).map bv) := by
    rw [unhide HY]; exact Blk.new w5 22 _
  obtain ⟨W6, hW6⟩ : ∃ W6, W6 = (w5.alloc (.cells Y 22)).setRow w5.heap.size (ik.map bv).toArray := ⟨_, rfl⟩
  have hI6 : Blk W6 w5.heap.size 22 (ik.map bv) := by rw [hW6]; exact hN5.row _
  have g6 : w5.grownBy W6 none := by rw [hW6]; exact gb_row (gb_alloc (gb_refl _ _) _) _ (Or.inl (Nat.le_refl _))
  have G6 : w.grownBy W6 none := gb_trans G5 g6 (fun _ e => by cases e)
  have hK6 := (hK4.kept g5 (by simp)).kept g6 (by simp)
  have hR6 := (hR4.kept g5 (by simp)).kept g6 (by simp)
  have hsl := slice_arr_all 22 5 32 Tryd.underlying22 size_byte w5.heap.size 0 (by omega)
  have hsz32 : ((ik.map bv).toArray).size = 32 := by simp [hikl]
  have HS32 := hide hsz32
  have HW6 := hide hW6
  have HN5 := hide hN5
  clear hsb hsz32 hW6 hN5 g5 g6 G5 G4 hK4 hR4
  -- the outer sum
  have hne2 : w2.heap.size ≠ w.heap.size := by have := (unhide HR1).lt; have := hge2; omega
  have hne5 : w5.heap.size ≠ w.heap.size := by have := (unhide HR1).lt; have := hge2; have := hge5; omega
  have hrK : W6.rangeAt w2.heap.size 0 (kb.map bv) := by
    have : Blk W6 w2.heap.size 27 ([] ++ (kb.map bv ++ [])) := by simpa using hK6
    exact this.range
  have hS4 : ∀ V, W6.grownBy V (some w.heap.size) → RowL V w.heap.size 22 32 → W6.grownBy V (some w.heap.size) ∧ RowL V w.heap.size 22 32 ∧ V.rangeAt w2.heap.size 0 (kb.map bv) ∧ V.there w.heap.size 0 32 := fun V h1 h2 => ⟨h1, h2, range_kept hrK h1 (by simpa using hne2), h2.there⟩
  have hTV : ∀ V, W6.grownBy V (some w.heap.size) → Tabs V := fun V gV => ((unhide HT).kept0 G6).kept gV (fun x e => by cases e; exact (unhide HT).glb (Nat.le_refl _))
  have hcm : ∀ V, W6.grownBy V (some w.heap.size) → RowL V w.heap.size 22 32 → Calls Tryd.prog 36 #[.agg (kb.map bv).toArray, .int .u8 92] V fun e w' => e = .returned (.agg ((maskL 92 kb).map bv).toArray) ∧ W6.grownBy w' (some w.heap.size) ∧ RowL w' w.heap.size 22 32 ∧ (w'.rangeAt w2.heap.size 0 (kb.map bv) ∧ w'.there w.heap.size 0 32) ∧ V.grownBy w' none := by
    intro V gV rV
    have h := masked_any V kb 92 (unhide HKBL)
    rw [show (((92 : UInt8).toNat : Nat) : Int) = 92 from rfl] at h
    exact h.mono fun e w' ⟨he, hg⟩ => ⟨he, gb_trans gV hg (fun _ e => by cases e), rV.kept hg, (hS4 w' (gb_trans gV hg (fun _ e => by cases e)) (rV.kept hg)).2.2, hg⟩
  obtain ⟨mk, hmk⟩ : ∃ mk, mk = macL key L.flatten := ⟨_, rfl⟩
  have hmk2 : shaL (maskL 92 kb ++ ik) = mk := by rw [hmk, macL, ← unhide HKB0, ← unhide HIK]
  have hmkl : mk.length = 32 := by rw [hmk]; exact macL_length _ _
  have hcs : ∀ V g, W6.grownBy V (some w.heap.size) → RowL V w.heap.size 22 32 → Blk V g 30 [.slice (some ⟨w5.heap.size, 0, none⟩) 32 32] → Calls Tryd.prog 35 #[.agg ((maskL 92 kb).map bv).toArray, .slice (some ⟨g, 0, none⟩) 1 1] V fun e w' => e = .returned (.agg (mk.map bv).toArray) ∧ W6.grownBy w' (some w.heap.size) ∧ RowL w' w.heap.size 22 32 ∧ w'.rangeAt w2.heap.size 0 (kb.map bv) ∧ w'.there w.heap.size 0 32 := by
    intro V g gV rV hV
    have hb : Bts V (some ⟨w5.heap.size, 0, none⟩) 32 ik := bts_row (hI6.kept gV (by simpa using hne5)) 32 (by omega) (by unfold maxLen; omega)
    have h := sumBehind_any V (maskL 92 kb) (by rw [maskL_length]; exact unhide HKBL) (some ⟨g, 0, none⟩) 1 [ik] (lst_one hb g (by rw [hikl]; exact hV)) (hTV V gV) (by simp [hikl])
    rw [show [ik].flatten = ik by simp, hmk2, show [ik].length = 1 from rfl] at h
    exact h.mono fun e w' ⟨he, hg⟩ => ⟨he, hS4 w' (gb_trans gV hg (fun _ e => by cases e)) (rV.kept hg)⟩
  have hgr := gb_refl W6 (some w.heap.size)
  have hrw : RowL W6 w.heap.size 22 32 := ⟨_, hR6, by simp⟩
  have hthR := hrw.there
  have HMK := hide hmk
  have HML := hide hmkl
  have HG6 := hide G6
  clear hK6 hR6 hI6 hmk hmkl hmk2 hikl hne2 hne5 hTV G6
  go_wp2_with (first
    | (refine wpList_store_row rfl 22 _ _ rfl w5.heap.size _ rfl rfl _ _ (unhide HN5) ?_ ?_ ?_ ?_; (rw [unhide HS32]; exact hi32); (rw [unhide HS32]; rfl); (exact all_oneCell_toArray (bv_one _)); refine (show wpList _ _ _ _ _ W6 → _ from fun q => unhide HW6 ▸ q) ?_))
  have hu64 := Tryd.underlying27
  have hu32 := Tryd.underlying22
  have hln : (kb.map bv).length = 64 := by simp [unhide HKBL]
  have hii : (Tryd.prog.info? 27).map (·.size) = some (kb.map bv).length := by rw [hln]; exact hi64
  have hln2 : (mk.map bv).length = 32 := by simp [unhide HML]
  have hii2 : (Tryd.prog.info? 22).map (·.size) = some (mk.map bv).length := by rw [hln2]; exact hi32
  have hone := bv_one mk
  go_region_held3 (fun V => W6.grownBy V (some w.heap.size) ∧ RowL V w.heap.size 22 32 ∧ V.rangeAt w2.heap.size 0 (kb.map bv) ∧ V.there w.heap.size 0 32)
    ((go_split_ands; refine hS4 _ ?_ ?_; (first | (with_reducible first | assumption | exact gb_drew (by assumption) | exact gb_alloc (by assumption) _ | exact gb_drew (gb_alloc (by assumption) _) | exact gb_alloc (gb_drew (by assumption)) _) | exact gb_setCells (Or.inr rfl) _ _ (by assumption)); (first | (with_reducible first | assumption | exact RowL.drew (by assumption) | exact RowL.alloc (by assumption) _ | exact RowL.drew (RowL.alloc (by assumption) _) | exact RowL.alloc (RowL.drew (by assumption)) _) | exact RowL.set (by assumption) _ hln2)))
    (first
      | (go_at_call 36; refine (hcm _ ?_ ?_).mono ?_; (with_reducible first | assumption | exact gb_drew (by assumption) | exact gb_alloc (by assumption) _ | exact gb_drew (gb_alloc (by assumption) _) | exact gb_alloc (gb_drew (by assumption)) _); (with_reducible first | assumption | exact RowL.drew (by assumption) | exact RowL.alloc (by assumption) _ | exact RowL.drew (RowL.alloc (by assumption) _) | exact RowL.alloc (RowL.drew (by assumption)) _); rintro e w' ⟨rfl, q1, q2, ⟨q3, q4⟩, q5⟩)
      | (go_at_call 35; refine (hcs _ _ ?_ ?_ ?_).mono ?_; (with_reducible first | assumption | exact gb_drew (by assumption) | exact gb_alloc (by assumption) _ | exact gb_drew (gb_alloc (by assumption) _) | exact gb_alloc (gb_drew (by assumption)) _); (with_reducible first | assumption | exact RowL.drew (by assumption) | exact RowL.alloc (by assumption) _ | exact RowL.drew (RowL.alloc (by assumption) _) | exact RowL.alloc (RowL.drew (by assumption)) _); (first | (with_reducible exact Blk.new _ _ _) | exact Blk.kept (Blk.drew (Blk.new W6 _ _)) q5 (by simp)); rintro e w' ⟨rfl, q1, q2, q3, q4⟩))
  all_goals go_wp2
  all_goals
    have hS := q2.over (mk.map bv) hln2
    have hG : w.grownBy (w'.setCells w.heap.size 0 (mk.map bv)) none := gb_setCells (Or.inl (Nat.le_refl _)) _ _ (gb_trans (unhide HG6) q1 (fun x e => by cases e; exact Or.inl (Nat.le_refl _)))
    refine bodyPost_ret (v := .agg (mk.map bv).toArray) (results_cell_row (g := w.heap.size) rfl _ _ _ _ _ _ ?_ hS Tryd.underlying22 rfl ?_) rfl ⟨?_, hG⟩
    · rfl
    · rw [List.size_toArray, hln2]; exact hi32
    · rw [unhide HMK]

end Go.Proofs.YtikdpifacokfpaaDoor
