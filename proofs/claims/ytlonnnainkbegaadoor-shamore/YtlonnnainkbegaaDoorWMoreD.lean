/- ShaMore's walk, where the text is cut, and the place behind it: whatever the text and the place, the call returns true and nothing that was in memory has changed; where the tables hold what they are laid with. -/
import Derived.Test.YtlonnnainkbegaaDoorWMoreB
import Derived.Test.YtlonnnainkbegaaDoorWMoreC
namespace Go.Proofs.YtlonnnainkbegaaDoor
open Go.RowKit
attribute [local go_sem ↓] Go.wp_at_zero Go.wp_at_succ

set_option maxRecDepth 100000 in
set_option maxHeartbeats 2000000 in
theorem more_d (w : World) (ao : Option Addr) (c : Nat) (b : List UInt8) (a : Int) (j : Nat) (hj : bits .and .i64 a 2047 = (j : Int)) (hb : Bts w ao c b) (hT : Tabs w) (h1 : 2000 < b.length) (h2 : 2000 < j) :
    Calls Tryd.prog 6 #[.slice ao b.length c, .int .i64 a] w fun e w' => e = .returned (.bool true) ∧ w.grownBy w' none := by
  have hi32 : (Tryd.prog.info? 23).map (·.size) = some 32 := by kernel_rfl
  have q0 : 2000 ≤ c := by have := hb.fits; omega
  have q1 : (2000 : Int) < (b.length : Int) := by omega
  have q2 : (2000 : Int) < (j : Int) := by omega
  have hto0 := slice_to_z (P := Tryd.prog) 22 5 Tryd.underlying22 size_byte ao b.length c 2000 2000 rfl (by omega)
  obtain ⟨x, hx⟩ : ∃ x, x = b.take 2000 := ⟨_, rfl⟩
  have hxl : x.length = 2000 := by rw [hx]; rw [List.length_take]; omega
  have hxb : Bts w ao c x := by rw [hx]; exact hb.take 2000 (by omega)
  have hNM : 2000 ≤ 2000 := by omega
  have hMc : 2000 ≤ c := by have := hxb.fits; omega
  have hM : 2000 ≤ 2000 := by omega
  have hto := slice_to_z (P := Tryd.prog) 22 5 Tryd.underlying22 size_byte ao 2000 c 2000 2000 rfl (by omega)
  have hfr := slice_from_z (P := Tryd.prog) 22 5 Tryd.underlying22 size_byte ao 2000 c 2000 0 2000 rfl (by omega) (by omega)
  obtain ⟨f, hf⟩ : ∃ f : Nat → List UInt8, ∀ q, f q = shaL (x.take q) := ⟨_, fun _ => rfl⟩
  have hfM : shaL x = f 2000 := by rw [hf, List.take_of_length_le (by omega)]
  have heq : ∀ (V : World) (q : Nat), (binOp .eql 23 (.agg ((f q).map bv).toArray) (.agg ((f q).map bv).toArray)).run Tryd.prog V = .ok (.bool true) V := fun V q => by rw [eql_sums V _ _ (by rw [hf]; exact shaL_length _) (by rw [hf]; exact shaL_length _)]; simp
  have hK : ∀ {V : World} {y : List UInt8} {xo : Option Addr} {xc : Nat}, Bts w xo xc y → w.grownBy V none → Bts V xo xc y := fun h g => h.kept g (fun _ e => by cases e)
  have hn1 := newh_any w
  have hwl : IntKind.u64.wrap 2000 = 2000 := by rw [IntKind.wrap_u64]; omega
  have HX := hide hxb
  have HT := hide hT
  have HF := hide hf
  have HXL := hide hxl
  have hsz32 : ∀ q, (((f q).map bv).toArray).size = 32 := fun q => by simp [hf, shaL_length]
  have HSZ := hide hsz32
  have HFM := hide hfM
  clear hb hT hxb hf hx hxl hsz32 hfM
  go_enter Tryd.func6, Tryd.ntmps6
  go_wp2_with fail
  refine hn1.mono ?_
  rintro e w1 ⟨rfl, hH1, g1⟩
  have hwr := write_any w1 w.heap.size 39 [] [] _ _ [] hH1 ((unhide HT).kept0 g1) ((unhide HT).glb (Nat.le_refl _)) ao c (x.take 2000) ((hK (unhide HX) g1).take 2000 (by rw [unhide HXL]; exact hNM)) (((unhide HX).take 2000 (by rw [unhide HXL]; exact hNM)).offNew (Nat.le_refl _)) (by simp; omega)
  rw [List.length_take, unhide HXL, Nat.min_eq_left hNM, List.nil_append, show ([] : List Value).length = 0 from rfl] at hwr
  clear hn1 hH1
  go_wp2_with fail
  refine hwr.mono ?_
  rintro e w2 ⟨rfl, ⟨wo2, re2, hH2⟩, g2⟩
  have G2 : w.grownBy w2 none := gb_trans g1 g2 (fun y e => by cases e; exact Or.inl (Nat.le_refl _))
  have hsm := sum_any w2 w.heap.size 39 [] [] _ _ _ hH2 ((unhide HT).kept0 G2) (by rw [List.length_take, unhide HXL]; omega)
  rw [← unhide HF, show ([] : List Value).length = 0 from rfl] at hsm
  have hlt2 := hH2.lt
  clear hwr g1 g2
  go_wp2_with fail
  refine hsm.mono ?_
  rintro e w3 ⟨rfl, g3⟩
  have hH3 := hH2.kept g3 (by simp)
  have G3 : w.grownBy w3 none := gb_trans G2 g3 (fun _ e => by cases e)
  have hlt3 : w.heap.size < w3.heap.size := Nat.lt_of_lt_of_le hlt2 g3.size
  obtain ⟨W4, hW4⟩ : ∃ W4, W4 = (w3.alloc (.cells ((List.replicate 32 (0 : UInt8)).map bv).toArray 23)).setRow w3.heap.size ((f 2000).map bv).toArray := ⟨_, rfl⟩
  have hB4 : Blk W4 w3.heap.size 23 ((f 2000).map bv) := by rw [hW4]; exact (Blk.new w3 23 ((List.replicate 32 (0 : UInt8)).map bv)).row _
  have g4 : w3.grownBy W4 none := by rw [hW4]; exact gb_row (gb_alloc (gb_refl _ _) _) _ (Or.inl (Nat.le_refl _))
  have G4 : w.grownBy W4 none := gb_trans G3 g4 (fun _ e => by cases e)
  have hH4 := hH3.kept g4 (by simp)
  have hwr4 := write_any W4 w.heap.size 39 [] [] _ _ _ hH4 ((unhide HT).kept0 G4) ((unhide HT).glb (Nat.le_refl _)) (cutA ao c 2000) (c - 2000) (x.drop 2000) ((hK (unhide HX) G4).drop 2000 (by rw [unhide HXL]; exact hNM)) (((unhide HX).drop 2000 (by rw [unhide HXL]; exact hNM)).offNew (Nat.le_refl _)) (by rw [List.length_take, List.length_drop, unhide HXL]; omega)
  rw [List.take_append_drop, show (x.drop 2000).length = 0 by rw [List.length_drop, unhide HXL], show ([] : List Value).length = 0 from rfl] at hwr4
  have HW4 := hide hW4
  clear hsm hH2 hH3 hH4 G2 g3 hW4
  go_wp2_with (first
    | (refine wpList_store_row rfl 23 _ _ rfl w3.heap.size _ rfl rfl _ _ (Blk.new w3 23 ((List.replicate 32 (0 : UInt8)).map bv)) ?_ ?_ ?_ ?_; (rw [unhide HSZ]; exact hi32); (rw [unhide HSZ]; rfl); (exact all_oneCell_toArray (bv_one _)); refine (show wpList _ _ _ _ _ W4 → _ from fun q => unhide HW4 ▸ q) ?_)
    | (go_at_call 11; refine hwr4.mono ?_; rintro e w5 ⟨rfl, ⟨wo5, re5, hH5⟩, g5⟩))
  have G5 : w.grownBy w5 none := gb_trans G4 g5 (fun y e => by cases e; exact Or.inl (Nat.le_refl _))
  have hB5 : w5.rangeAt w3.heap.size 0 ((f 2000).map bv) := by
    have h : Blk w5 w3.heap.size 23 ([] ++ ((f 2000).map bv ++ [])) := by
      have := hB4.kept g5 (by simp; omega)
      simpa using this
    exact h.range
  have gT : ∀ {V U : World}, w5.grownBy V none → V.grownBy U none → w5.grownBy U none ∧ U.rangeAt w3.heap.size 0 ((f 2000).map bv) := fun h k => ⟨gb_trans h k (fun _ e => by cases e), range_kept hB5 (gb_trans h k (fun _ e => by cases e)) (by simp)⟩
  have cs : ∀ V, w5.grownBy V none → ∀ q, q ≤ 2000 → Calls Tryd.prog 7 #[.slice ao q c] V fun e w' => e = .returned (.agg ((f q).map bv).toArray) ∧ w5.grownBy w' none ∧ w'.rangeAt w3.heap.size 0 ((f 2000).map bv) := by
    intro V gV q hq
    have h := sumf_any V ao c (x.take q) ((hK (unhide HX) (gb_trans G5 gV (fun _ e => by cases e))).take q (by rw [unhide HXL]; exact hq)) ((unhide HT).kept0 (gb_trans G5 gV (fun _ e => by cases e))) (by rw [List.length_take, unhide HXL]; omega)
    rw [List.length_take, unhide HXL, Nat.min_eq_left hq, ← unhide HF] at h
    exact h.mono fun e w' ⟨he, hg⟩ => ⟨he, gT gV hg⟩
  have ch : ∀ V, w5.grownBy V none → Calls Tryd.prog 12 #[.pointer (some ⟨w.heap.size, 0, none⟩)] V fun e w' => e = .returned (.agg ((f 2000).map bv).toArray) ∧ w5.grownBy w' none ∧ w'.rangeAt w3.heap.size 0 ((f 2000).map bv) := by
    intro V gV
    have h := sum_any V w.heap.size 39 [] [] _ _ _ (hH5.kept gV (by simp)) ((unhide HT).kept0 (gb_trans G5 gV (fun _ e => by cases e))) (by rw [unhide HXL]; omega)
    rw [unhide HFM, show ([] : List Value).length = 0 from rfl] at h
    exact h.mono fun e w' ⟨he, hg⟩ => ⟨he, gT gV hg⟩
  have cl : ∀ V, w5.grownBy V none → Calls Tryd.prog 13 #[.pointer (some ⟨w.heap.size, 0, none⟩)] V fun e w' => e = .returned (.int .u64 2000) ∧ w5.grownBy w' none ∧ w'.rangeAt w3.heap.size 0 ((f 2000).map bv) := by
    intro V gV
    have h := len_any V w.heap.size 39 [] [] _ _ _ (hH5.kept gV (by simp))
    rw [unhide HXL, show ([] : List Value).length = 0 from rfl] at h
    exact h.mono fun e w' ⟨he, hg⟩ => ⟨he, by rw [hg]; exact gT gV (gb_refl _ _)⟩
  have c1 : ∀ V, w5.grownBy V none → Calls Tryd.prog 9 #[] V fun e w' => e = .returned (.bool true) ∧ w5.grownBy w' none ∧ w'.rangeAt w3.heap.size 0 ((f 2000).map bv) := by
    intro V gV
    have h := one_any V ((unhide HT).kept0 (gb_trans G5 gV (fun _ e => by cases e)))
    exact h.mono fun e w' ⟨he, hg⟩ => ⟨he, gT gV hg⟩
  have co : ∀ V, w5.grownBy V none → Calls Tryd.prog 14 #[.slice (some ⟨V.heap.size, 0, none⟩) 3 3] (V.alloc (.cells #[.slice ao 2000 c, .slice none 0 0, .slice (cutA ao c 2000) 0 (c - 2000)] 22)) fun e w' => e = .returned (.agg ((f 2000).map bv).toArray) ∧ w5.grownBy w' none ∧ w'.rangeAt w3.heap.size 0 ((f 2000).map bv) := by
    intro V gV
    obtain ⟨U, hU⟩ : ∃ U, U = V.alloc (.cells #[.slice ao 2000 c, .slice none 0 0, .slice (cutA ao c 2000) 0 (c - 2000)] 22) := ⟨_, rfl⟩
    have gU : V.grownBy U none := by rw [hU]; exact gb_alloc (gb_refl _ _) _
    have GU : w.grownBy U none := gb_trans (gb_trans G5 gV (fun _ e => by cases e)) gU (fun _ e => by cases e)
    have hl1 : (x.take 2000).length = 2000 := by rw [List.length_take, unhide HXL]; omega
    have hl2 : (x.drop 2000).length = 0 := by rw [List.length_drop, unhide HXL]
    have hBU : Blk U V.heap.size 22 [.slice ao (x.take 2000).length c, .slice none ([] : List UInt8).length 0, .slice (cutA ao c 2000) (x.drop 2000).length (c - 2000)] := by
      rw [hl1, hl2, hU]; exact Blk.new V _ _
    have h := of_any U _ 3 [x.take 2000, [], x.drop 2000] (lst_three ((hK (unhide HX) GU).take 2000 (by rw [unhide HXL]; exact hNM)) (Bts.nil _) ((hK (unhide HX) GU).drop 2000 (by rw [unhide HXL]; exact hNM)) V.heap.size hBU) ((unhide HT).kept0 GU) (by simp [unhide HXL])
    rw [show [x.take 2000, [], x.drop 2000].flatten = x by simp, unhide HFM, show [x.take 2000, [], x.drop 2000].length = 3 from rfl] at h
    rw [← hU]
    exact h.mono fun e w' ⟨he, hg⟩ => ⟨he, gT (gb_trans gV gU (fun _ e => by cases e)) hg⟩
  have hgr := gb_refl w5 none
  have hu := Tryd.underlying23
  have hln : ((f 2000).map bv).length = 32 := by simpa using unhide HSZ 2000
  have hii : (Tryd.prog.info? 23).map (·.size) = some ((f 2000).map bv).length := by rw [hln]; exact hi32
  have hone := bv_one (f 2000)
  have HG5 := hide G5
  clear hwr4 hH5 g5 hB4 g4 gT G5 G4 G3 hi32
  go_region_held3 (fun V => w5.grownBy V none ∧ V.rangeAt w3.heap.size 0 ((f 2000).map bv))
    ((go_split_ands; refine ⟨?_, ?_⟩ <;> (first | assumption | (apply gb_drew; assumption) | (apply gb_alloc; assumption) | (apply World.rangeAt_alloc; assumption) | (rw [World.rangeAt_drew]; assumption))))
    (first
      | (go_at_call 7; refine (cs _ ?_ _ ?_).mono ?_; (first | assumption | (apply gb_drew; assumption)); (omega); rintro e w' ⟨rfl, gg, gr⟩)
      | (go_at_call 12; refine (ch _ ?_).mono ?_; (first | assumption | (apply gb_drew; assumption)); rintro e w' ⟨rfl, gg, gr⟩)
      | (go_at_call 14; refine (co _ ?_).mono ?_; (first | assumption | (apply gb_drew; assumption)); rintro e w' ⟨rfl, gg, gr⟩)
      | (go_at_call 13; refine (cl _ ?_).mono ?_; (first | assumption | (apply gb_drew; assumption)); rintro e w' ⟨rfl, gg, gr⟩)
      | (go_at_call 9; refine (c1 _ ?_).mono ?_; (first | assumption | (apply gb_drew; assumption)); rintro e w' ⟨rfl, gg, gr⟩))
  go_wp2
  go_ret
  exact ⟨rfl, gb_trans (unhide HG5) (by assumption) (fun _ e => by cases e)⟩

theorem shaMore_any (w : World) (ao : Option Addr) (c : Nat) (b : List UInt8) (a : Int) (hb : Bts w ao c b) (hT : Tabs w) :
    Calls Tryd.prog 6 #[.slice ao b.length c, .int .i64 a] w fun e w' => e = .returned (.bool true) ∧ w.grownBy w' none := by
  obtain ⟨j, hj2, hj⟩ := and2047 a
  by_cases h1 : b.length ≤ 2000
  · by_cases h2 : j ≤ b.length
    · exact more_a w ao c b a j hj hb hT h1 h2
    · exact more_b w ao c b a j hj hb hT h1 (by omega)
  · by_cases h2 : j ≤ 2000
    · exact more_c w ao c b a j hj hb hT (by omega) h2
    · exact more_d w ao c b a j hj hb hT (by omega) (by omega)

end Go.Proofs.YtlonnnainkbegaaDoor
