/- ShaParts' walk: whatever the texts hold, the call returns true and nothing that was in memory has changed; where the tables hold what they are laid with. -/
import Derived.Test.YtlonnnainkbegaaDoorWOf
import Derived.Deep.DrawnRows
namespace Go.Proofs.YtlonnnainkbegaaDoor
open Go.RowKit
attribute [local go_sem ↓] Go.wp_at_zero Go.wp_at_succ

/-- All so far. -/
def partsL (L : List (List UInt8)) (k : Nat) : List UInt8 := ((L.take k).map (·.take 300)).flatten
theorem partsL_succ {L : List (List UInt8)} {k : Nat} (h : k < L.length) : partsL L (k + 1) = partsL L k ++ (L[k]).take 300 := by
  unfold partsL
  rw [takeL_snoc h, List.map_append, List.flatten_append]; simp
theorem partsL_le (L : List (List UInt8)) : ∀ k, (partsL L k).length ≤ 300 * k
  | 0 => by simp [partsL]
  | k + 1 => by
    by_cases h : k < L.length
    · rw [partsL_succ h, List.length_append, List.length_take]
      have := partsL_le L k
      omega
    · have := partsL_le L k
      have e : partsL L (k + 1) = partsL L k := by
        unfold partsL
        rw [List.take_of_length_le (by omega), List.take_of_length_le (by omega)]
      rw [e]; omega

theorem Bts.keptOff {w a : World} {r : Option Nat} {ao : Option Addr} {c : Nat} {l : List UInt8} (h : Bts w ao c l) (g : w.grownBy a r) (hr : 0 < l.length → ∀ x, r = some x → Off ao x) : Bts a ao c l :=
  ⟨h.zip, h.fits, h.most, h.shape, fun ad e i hi => g.cell (h.cell ad e i hi) (fun e2 => hr (by omega) ad.block e2.symm ad e rfl)⟩

theorem neq_sums (w : World) (xs : List UInt8) (hx : xs.length = 32) : (binOp .neq 23 (.agg (xs.map bv).toArray) (.agg (xs.map bv).toArray)).run Tryd.prog w = .ok (.bool false) w := by
  rw [run_neq_struct]
  have h := run_equalIn_bytes (P := Tryd.prog) w 9998 23 5 32 Tryd.underlying23 Tryd.underlying5 size_byte xs xs hx hx
  rw [show (Op.equalIn 10000 23 (.agg (xs.map bv).toArray) (.agg (xs.map bv).toArray)).run Tryd.prog w = .ok (xs == xs) w from h]
  simp

set_option maxRecDepth 100000 in
set_option maxHeartbeats 1500000 in
theorem shaParts_any (w : World) (ao : Option Addr) (c : Nat) (L : List (List UInt8)) (hL : Lst w ao c L) (hT : Tabs w) :
    Calls Tryd.prog 4 #[.slice ao L.length c] w fun e w' => e = .returned (.bool true) ∧ w.grownBy w' none := by
  have hi32 : (Tryd.prog.info? 23).map (·.size) = some 32 := by kernel_rfl
  obtain ⟨q, hq⟩ : ∃ q, q = L.length := ⟨_, rfl⟩
  rw [← hq]
  have hqc : q ≤ c := by have := hL.fits; omega
  have hqm : q ≤ maxLen := by have := hL.most; omega
  unfold maxLen at hqm
  have HQ := hide hq
  have HL := hide hL
  have HT0 := hide hT
  clear hq hL hT
  have hn1 := newh_any w
  go_enter Tryd.func4, Tryd.ntmps4
  go_wp2_with fail
  refine hn1.mono ?_
  rintro e w1 ⟨rfl, hH1, g1⟩
  have hlt1 : w.heap.size < w1.heap.size := hH1.lt
  have HH1 := hide hH1
  have HG1 := hide g1
  clear hn1 hH1 g1
  go_wp2
  go_loopw [4, 5] (fun al i wr => ∃ (k : Nat) (words : List W) (rest : List UInt8), k ≤ q ∧ k ≤ 20 ∧ i = .int .i64 k ∧ HAt wr w.heap.size 39 [] [] words rest (partsL L k) ∧ wr.ownsRow w1.heap.size 5 1 al (partsL L k).length ((partsL L k).map bv) ∧ w.grownBy wr none ∧ w1.heap.size ≤ wr.heap.size) (fun _ i _ => 20 - (intOf i).toNat)
  case atStart => exact ⟨0, _, _, Nat.zero_le _, Nat.zero_le _, rfl, unhide HH1, World.ownsRow_nil _ _ _ _, unhide HG1, Nat.le_refl _⟩
  case round =>
    obtain ⟨k, words, rest, hk, hk20, rfl, hH, ho, hg, hs1⟩ := hrel
    have hT0 := unhide HT0
    have hpl := partsL_le L k
    by_cases hlt : k < q ∧ k < 20
    · obtain ⟨hlq, hl20⟩ := hlt
      have hkL : k < L.length := by have := unhide HQ; omega
      have hL := unhide HL
      obtain ⟨ad, rfl⟩ : ∃ ad, ao = some ad := by
        cases ao with
        | none => have := hL.zip rfl; omega
        | some ad => exact ⟨ad, rfl⟩
      obtain ⟨ai, ci, hc, hbi⟩ := hL.cell ad rfl k hkL
      have hsh := hL.shape ad rfl (by omega)
      obtain ⟨b, o, s⟩ := ad
      simp only at hsh hc
      subst hsh
      have hcr := hg.cell hc (by simp)
      obtain ⟨xl, hxl0⟩ : ∃ xl, xl = (L[k]).length := ⟨_, rfl⟩
      rw [← hxl0] at hcr
      obtain ⟨tk, htk⟩ : ∃ tk, tk = partsL L (k + 1) := ⟨_, rfl⟩
      have htl := partsL_le L (k + 1)
      rw [← htk] at htl
      obtain ⟨sk, hsk⟩ : ∃ sk, sk = shaL tk := ⟨_, rfl⟩
      have hneq : ∀ V, (binOp .neq 23 (.agg (sk.map bv).toArray) (.agg (sk.map bv).toArray)).run Tryd.prog V = .ok (.bool false) V := fun V => neq_sums V sk (by rw [hsk]; exact shaL_length _)
      have HSK := hide hsk
      clear hsk
      have hq0 : (0 : Int) ≤ (k : Int) := by omega
      have hq1 : (k : Int) < (q : Int) := by omega
      have hq2 : (k : Int) < 20 := by omega
      have HTK := hide htk
      have hxc : xl ≤ ci := by have := hbi.fits; omega
      have hsp := partsL_succ hkL
      rw [← htk] at hsp
      clear hL hc htk
      by_cases hbig : 300 < xl
      · have hq3 : (300 : Int) < (xl : Int) := by omega
        have hto := slice_to (P := Tryd.prog)
        have hto2 : ∀ V, (Instr.slice 22 (.slice ai xl ci) none (some (.int .i64 300)) none).run Tryd.prog V = .ok (.slice ai 300 ci) V := fun V => slice_to (P := Tryd.prog) V 22 5 Tryd.underlying22 size_byte ai xl ci 300 (by omega)
        clear hto
        obtain ⟨xk, hxk⟩ : ∃ xk, xk = (L[k]).take 300 := ⟨_, rfl⟩
        have hxl : xk.length = 300 := by rw [hxk, List.length_take]; omega
        have hbw : Bts w ai ci xk := by rw [hxk]; exact hbi.take 300 (by omega)
        have hbx := hbw.kept hg (fun _ e => by cases e)
        have hxs : tk = partsL L k ++ xk := by rw [hsp, hxk]
        clear hxk hsp hxl0
        have hwr := write_any wr w.heap.size 39 [] [] words rest _ hH (hT0.kept0 hg) (hT0.glb (Nat.le_refl _)) ai ci xk hbx (fun h0 => hbw.offNew (Nat.le_refl _) h0) (by omega)
        rw [hxl, ← hxs, show ([] : List Value).length = 0 from rfl] at hwr
        have HO := hide ho
        have HBW := hide hbw
        have HXL := hide hxl
        have HXS := hide hxs
        have HG := hide hg
        clear hH ho hbx hxl hg hbi hbw hxs
        go_wp2_with fail
        refine hwr.mono ?_
        rintro e w2 ⟨rfl, ⟨wo, re, hH2⟩, g2⟩
        clear hwr
        have G2 : w.grownBy w2 none := gb_trans (unhide HG) g2 (fun y e => by cases e; exact Or.inl (Nat.le_refl _))
        have o2 : w2.ownsRow w1.heap.size 5 1 u4 (partsL L k).length ((partsL L k).map bv) := (unhide HO).kept g2 (Or.inr (fun e => by have := ((unhide HO).lt _ e).1; omega))
        have hx2 : Bts w2 ai ci xk := (unhide HBW).kept G2 (fun _ e => by cases e)
        have hs2 : w1.heap.size ≤ w2.heap.size := Nat.le_trans hs1 g2.size
        go_wp2_with (at_builtin; refine wpList_append_bts rfl _ _ rfl w1.heap.size _ _ _ rfl o2 ai ci xk hx2 ?hx ?n1 ?s1 ?_)
        case hx => rw [unhide HXL]; rfl
        case n1 => rw [unhide HXL]; omega
        case s1 => exact hs2
        intro v3 w3 o3 q3
        have o4 : w3.ownsRow w1.heap.size 5 1 v3 tk.length (tk.map bv) := by
          rw [unhide HXS]
          simpa using o3
        have G3 : w.grownBy w3 none := gb_trans G2 q3 (fun x e => Or.inl (by have := (o2.lt x e).1; omega))
        have hH3 : HAt w3 w.heap.size 39 [] [] wo re tk := hH2.kept q3 (fun e => by have := (o2.lt _ e.symm).1; omega)
        have hs3 : w1.heap.size ≤ w3.heap.size := Nat.le_trans hs2 q3.size
        obtain ⟨lo, c3, rfl, hb3, _⟩ := NewB.own o4
        have h5 := sum_any w3 w.heap.size 39 [] [] wo re tk hH3 (hT0.kept0 G3) (by omega)
        rw [show ([] : List Value).length = 0 from rfl, ← unhide HSK] at h5
        clear o2 o3 hx2 q3 hH2
        go_wp2_with fail
        refine h5.mono ?_
        rintro e w5 ⟨rfl, g5⟩
        have G5 : w.grownBy w5 none := gb_trans G3 g5 (fun _ e => by cases e)
        have h6 := sumf_any w5 lo c3 tk (hb3.kept g5 (fun _ e => by cases e)) (hT0.kept0 G5) (by omega)
        rw [← unhide HSK] at h6
        clear h5
        go_wp2_with fail
        refine h6.mono ?_
        rintro e w6 ⟨rfl, g6⟩
        have g36 : w3.grownBy w6 none := gb_trans g5 g6 (fun _ e => by cases e)
        have G6 : w.grownBy w6 none := gb_trans G3 g36 (fun _ e => by cases e)
        have h7 := len_any w6 w.heap.size 39 [] [] wo re tk (hH3.kept g36 (by simp))
        rw [show ([] : List Value).length = 0 from rfl] at h7
        clear h6 g5 g6
        go_wp2_with fail
        refine h7.mono ?_
        rintro e w7 ⟨rfl, rfl⟩
        clear h7
        go_wp2
        go_roundw
        case rel => exact ⟨k + 1, wo, re, by omega, by omega, by go_num, unhide HTK ▸ hH3.kept g36 (by simp), unhide HTK ▸ o4.kept g36 (Classical.em _), G6, Nat.le_trans hs3 g36.size⟩
        case measure => simp [intOf]; omega
      · have hq3 : ¬ (300 : Int) < (xl : Int) := by omega
        obtain ⟨xk, hxk⟩ : ∃ xk, xk = L[k] := ⟨_, rfl⟩
        have hxl : xk.length = xl := by rw [hxk, hxl0]
        have hbw : Bts w ai ci xk := by rw [hxk]; exact hbi
        have hbx := hbw.kept hg (fun _ e => by cases e)
        have hxs : tk = partsL L k ++ xk := by rw [hsp, hxk, List.take_of_length_le (by omega)]
        clear hxk hsp hxl0
        have hwr := write_any wr w.heap.size 39 [] [] words rest _ hH (hT0.kept0 hg) (hT0.glb (Nat.le_refl _)) ai ci xk hbx (fun h0 => hbw.offNew (Nat.le_refl _) h0) (by omega)
        rw [hxl, ← hxs, show ([] : List Value).length = 0 from rfl] at hwr
        have HO := hide ho
        have HBW := hide hbw
        have HXL := hide hxl
        have HXS := hide hxs
        have HG := hide hg
        clear hH ho hbx hxl hg hbi hbw hxs
        go_wp2_with fail
        refine hwr.mono ?_
        rintro e w2 ⟨rfl, ⟨wo, re, hH2⟩, g2⟩
        clear hwr
        have G2 : w.grownBy w2 none := gb_trans (unhide HG) g2 (fun y e => by cases e; exact Or.inl (Nat.le_refl _))
        have o2 : w2.ownsRow w1.heap.size 5 1 u4 (partsL L k).length ((partsL L k).map bv) := (unhide HO).kept g2 (Or.inr (fun e => by have := ((unhide HO).lt _ e).1; omega))
        have hx2 : Bts w2 ai ci xk := (unhide HBW).kept G2 (fun _ e => by cases e)
        have hs2 : w1.heap.size ≤ w2.heap.size := Nat.le_trans hs1 g2.size
        go_wp2_with (at_builtin; refine wpList_append_bts rfl _ _ rfl w1.heap.size _ _ _ rfl o2 ai ci xk hx2 ?hx ?n1 ?s1 ?_)
        case hx => rw [unhide HXL]; rfl
        case n1 => rw [unhide HXL]; omega
        case s1 => exact hs2
        intro v3 w3 o3 q3
        have o4 : w3.ownsRow w1.heap.size 5 1 v3 tk.length (tk.map bv) := by
          rw [unhide HXS]
          simpa using o3
        have G3 : w.grownBy w3 none := gb_trans G2 q3 (fun x e => Or.inl (by have := (o2.lt x e).1; omega))
        have hH3 : HAt w3 w.heap.size 39 [] [] wo re tk := hH2.kept q3 (fun e => by have := (o2.lt _ e.symm).1; omega)
        have hs3 : w1.heap.size ≤ w3.heap.size := Nat.le_trans hs2 q3.size
        obtain ⟨lo, c3, rfl, hb3, _⟩ := NewB.own o4
        have h5 := sum_any w3 w.heap.size 39 [] [] wo re tk hH3 (hT0.kept0 G3) (by omega)
        rw [show ([] : List Value).length = 0 from rfl, ← unhide HSK] at h5
        clear o2 o3 hx2 q3 hH2
        go_wp2_with fail
        refine h5.mono ?_
        rintro e w5 ⟨rfl, g5⟩
        have G5 : w.grownBy w5 none := gb_trans G3 g5 (fun _ e => by cases e)
        have h6 := sumf_any w5 lo c3 tk (hb3.kept g5 (fun _ e => by cases e)) (hT0.kept0 G5) (by omega)
        rw [← unhide HSK] at h6
        clear h5
        go_wp2_with fail
        refine h6.mono ?_
        rintro e w6 ⟨rfl, g6⟩
        have g36 : w3.grownBy w6 none := gb_trans g5 g6 (fun _ e => by cases e)
        have G6 : w.grownBy w6 none := gb_trans G3 g36 (fun _ e => by cases e)
        have h7 := len_any w6 w.heap.size 39 [] [] wo re tk (hH3.kept g36 (by simp))
        rw [show ([] : List Value).length = 0 from rfl] at h7
        clear h6 g5 g6
        go_wp2_with fail
        refine h7.mono ?_
        rintro e w7 ⟨rfl, rfl⟩
        clear h7
        go_wp2
        go_roundw
        case rel => exact ⟨k + 1, wo, re, by omega, by omega, by go_num, unhide HTK ▸ hH3.kept g36 (by simp), unhide HTK ▸ o4.kept g36 (Classical.em _), G6, Nat.le_trans hs3 g36.size⟩
        case measure => simp [intOf]; omega
    · obtain ⟨T, hTT⟩ : ∃ T, T = partsL L k := ⟨_, rfl⟩
      rw [← hTT] at hH ho hpl
      have hfl : ((k : Int) < (q : Int)) = False ∨ (((k : Int) < (q : Int)) = True ∧ ((k : Int) < 20) = False) := by
        by_cases h : k < q
        · right; constructor
          · simp; omega
          · simp; omega
        · left; simp; omega
      obtain ⟨lo, c3, rfl, hb3, _⟩ := NewB.own ho
      have hbw : Bts wr lo c3 T := hb3
      obtain ⟨F, hF⟩ : ∃ F : Nat → List UInt8, ∀ n, F n = if n = 0 then shaL [] else shaL T := ⟨_, fun _ => rfl⟩
      have hF0 : shaL [] = F 0 := by rw [hF]; rfl
      have hFn : shaL T = F T.length := by
        rw [hF]
        split
        · rename_i h
          rw [List.length_eq_zero_iff.1 h]
        · rfl
      have hF32 : ∀ n, (F n).length = 32 := fun n => by rw [hF]; split <;> exact shaL_length _
      have hzv := hash_zero
      obtain ⟨Z, hZ⟩ : ∃ Z : Array Value, Z = (hc (List.replicate 8 0) (List.replicate 64 0) 0).toArray := ⟨_, rfl⟩
      rw [← hZ] at hzv
      obtain ⟨W2, hW2⟩ : ∃ W2, W2 = wr.alloc (.cells Z 39) := ⟨_, rfl⟩
      have hH2 : HAt W2 wr.heap.size 39 [] [] (List.replicate 8 0) (List.replicate 64 0) [] := by rw [hW2, hZ]; exact HAt.fresh wr
      have g2 : wr.grownBy W2 none := by rw [hW2]; exact gb_alloc (gb_refl _ _) _
      have G2 : w.grownBy W2 none := gb_trans hg g2 (fun _ e => by cases e)
      have h2 := sum_any W2 wr.heap.size 39 [] [] _ _ [] hH2 (hT0.kept0 G2) (by simp)
      rw [hF0, show ([] : List Value).length = 0 from rfl] at h2
      have hwn := write_nil wr (.slice lo T.length c3)
      have HSZ : Hid (∀ n, (((F n).map bv).toArray).size = 32) := hide (fun n => by simp [hF32])
      have HF32 := hide hF32
      have HF0 := hide hF0
      have HFN := hide hFn
      have HW2 := hide hW2
      have HB3 := hide hb3
      have hszr := hg.size
      clear hH ho hb3 hbw hF hF0 hFn hF32 hZ hW2 hTT
      rcases hfl with hfl | ⟨hfl, hfl2⟩
      all_goals
        go_wp2_with fail
        refine hwn.mono ?_
        rintro e w' ⟨rfl, rfl⟩
        go_wp2_with fail
        rw [← unhide HW2]
        refine h2.mono ?_
        rintro e w3 ⟨rfl, g3⟩
        have G3 : w.grownBy w3 none := gb_trans G2 g3 (fun _ e => by cases e)
        have hH3 := hH2.kept g3 (by simp)
        have hlt3 : w'.heap.size < w3.heap.size := hH3.lt
        obtain ⟨W4, hW4⟩ : ∃ W4, W4 = (w3.alloc (.cells ((List.replicate 32 (0 : UInt8)).map bv).toArray 23)).setRow w3.heap.size ((F 0).map bv).toArray := ⟨_, rfl⟩
        have hB4 : Blk W4 w3.heap.size 23 ((F 0).map bv) := by rw [hW4]; exact (Blk.new w3 23 ((List.replicate 32 (0 : UInt8)).map bv)).row _
        have g4 : w3.grownBy W4 none := by rw [hW4]; exact gb_row (gb_alloc (gb_refl _ _) _) _ (Or.inl (Nat.le_refl _))
        have G4 : w.grownBy W4 none := gb_trans G3 g4 (fun _ e => by cases e)
        have g24 : w'.grownBy W4 none := gb_trans (gb_trans g2 g3 (fun _ e => by cases e)) g4 (fun _ e => by cases e)
        have hwr4 := write_any W4 w'.heap.size 39 [] [] _ _ [] (hH3.kept g4 (by simp)) (hT0.kept0 G4) (hT0.glb hszr) lo c3 T ((unhide HB3).kept g24 (fun _ e => by cases e)) (fun h0 => (unhide HB3).offNew (Nat.le_refl _) h0) (by simp; omega)
        rw [List.nil_append, show ([] : List Value).length = 0 from rfl] at hwr4
        have HW4 := hide hW4
        clear h2 hwn hW4 hH3 hH2
        go_wp2_with (first
          | (refine wpList_store_row rfl 23 _ _ rfl w3.heap.size _ rfl rfl _ _ (Blk.new w3 23 ((List.replicate 32 (0 : UInt8)).map bv)) ?_ ?_ ?_ ?_; (rw [unhide HSZ]; exact hi32); (rw [unhide HSZ]; rfl); (exact all_oneCell_toArray (bv_one _)); refine (show wpList _ _ _ _ _ W4 → _ from fun q => unhide HW4 ▸ q) ?_)
          | (go_at_call 11; refine hwr4.mono ?_; rintro e w5 ⟨rfl, ⟨wo5, re5, hH5⟩, g5⟩))
        have G5 : w.grownBy w5 none := gb_trans G4 g5 (fun y e => by cases e; exact Or.inl hszr)
        have hb5 : Bts w5 lo c3 T := ((unhide HB3).kept g24 (fun _ e => by cases e)).keptOff g5 (fun h0 y e => by cases e; exact (unhide HB3).offNew (Nat.le_refl _) h0)
        have hB5 : w5.rangeAt w3.heap.size 0 ((F 0).map bv) := by
          have h : Blk w5 w3.heap.size 23 ([] ++ ((F 0).map bv ++ [])) := by
            have := hB4.kept g5 (by simp; omega)
            simpa using this
          exact h.range
        have gT : ∀ {V U : World}, w5.grownBy V none → V.grownBy U none → w5.grownBy U none ∧ U.rangeAt w3.heap.size 0 ((F 0).map bv) := fun h k => ⟨gb_trans h k (fun _ e => by cases e), range_kept hB5 (gb_trans h k (fun _ e => by cases e)) (by simp)⟩
        obtain ⟨D, hD0, hD1⟩ : ∃ D : Option Addr → List UInt8, D none = F 0 ∧ D (some ⟨w'.heap.size, 0, none⟩) = F T.length := ⟨fun | none => F 0 | some _ => F T.length, rfl, rfl⟩
        have heqF : ∀ (V : World) (n : Nat), (binOp .eql 23 (.agg ((F n).map bv).toArray) (.agg ((F n).map bv).toArray)).run Tryd.prog V = .ok (.bool true) V := fun V n => by rw [eql_sums V _ _ (unhide HF32 n) (unhide HF32 n)]; simp
        have heqD0 : ∀ V, (binOp .eql 23 (.agg ((D none).map bv).toArray) (.agg ((F 0).map bv).toArray)).run Tryd.prog V = .ok (.bool true) V := fun V => by rw [hD0]; exact heqF V 0
        have heqD1 : ∀ V, (binOp .eql 23 (.agg ((D (some ⟨w'.heap.size, 0, none⟩)).map bv).toArray) (.agg ((F T.length).map bv).toArray)).run Tryd.prog V = .ok (.bool true) V := fun V => by rw [hD1]; exact heqF V _
        have cs : ∀ V, w5.grownBy V none → ∀ (so : Option Addr) (n sc : Nat), ((so = none ∧ n = 0 ∧ sc = 0) ∨ (so = lo ∧ n = T.length ∧ sc = c3)) → Calls Tryd.prog 7 #[.slice so n sc] V fun e w' => e = .returned (.agg ((F n).map bv).toArray) ∧ w5.grownBy w' none ∧ w'.rangeAt w3.heap.size 0 ((F 0).map bv) := by
          intro V gV so n sc h
          have gW := gb_trans G5 gV (fun _ e => by cases e)
          rcases h with ⟨rfl, rfl, rfl⟩ | ⟨rfl, rfl, rfl⟩
          · have h := sumf_none V (hT0.kept0 gW)
            rw [unhide HF0] at h
            exact h.mono fun e w' ⟨he, hg⟩ => ⟨he, gT gV hg⟩
          · have h := sumf_any V _ _ T (hb5.kept gV (fun _ e => by cases e)) (hT0.kept0 gW) (by omega)
            rw [unhide HFN] at h
            exact h.mono fun e w' ⟨he, hg⟩ => ⟨he, gT gV hg⟩
        have ch : ∀ V, w5.grownBy V none → ∀ po : Option Addr, (po = none ∨ po = some ⟨w'.heap.size, 0, none⟩) → Calls Tryd.prog 12 #[.pointer po] V fun e w' => e = .returned (.agg ((D po).map bv).toArray) ∧ w5.grownBy w' none ∧ w'.rangeAt w3.heap.size 0 ((F 0).map bv) := by
          intro V gV po h
          have gW := gb_trans G5 gV (fun _ e => by cases e)
          rcases h with rfl | rfl
          · have h := sum_nil V (hT0.kept0 gW)
            rw [unhide HF0] at h
            rw [hD0]
            exact h.mono fun e w' ⟨he, hg⟩ => ⟨he, gT gV hg⟩
          · have h := sum_any V w'.heap.size 39 [] [] _ _ _ (hH5.kept gV (by simp)) (hT0.kept0 gW) (by omega)
            rw [unhide HFN, show ([] : List Value).length = 0 from rfl] at h
            rw [hD1]
            exact h.mono fun e w' ⟨he, hg⟩ => ⟨he, gT gV hg⟩
        have cl : ∀ V, w5.grownBy V none → Calls Tryd.prog 13 #[.pointer none] V fun e w' => e = .returned (.int .u64 0) ∧ w5.grownBy w' none ∧ w'.rangeAt w3.heap.size 0 ((F 0).map bv) := fun V gV => (len_nil V).mono fun e w' ⟨he, hg⟩ => ⟨he, by rw [hg]; exact gT gV (gb_refl _ _)⟩
        have c1 : ∀ V, w5.grownBy V none → Calls Tryd.prog 9 #[] V fun e w' => e = .returned (.bool true) ∧ w5.grownBy w' none ∧ w'.rangeAt w3.heap.size 0 ((F 0).map bv) := fun V gV => (one_any V (hT0.kept0 (gb_trans G5 gV (fun _ e => by cases e)))).mono fun e w' ⟨he, hg⟩ => ⟨he, gT gV hg⟩
        have hgr := gb_refl w5 none
        have hu := Tryd.underlying23
        have hln : ((F 0).map bv).length = 32 := by simpa using unhide HSZ 0
        have hii : (Tryd.prog.info? 23).map (·.size) = some ((F 0).map bv).length := by rw [hln]; exact hi32
        have hone := bv_one (F 0)
        have HG5 := hide G5
        clear hwr4 hH5 g5 hB4 g4 gT G5 G4 G3 hi32 hb5 hD0 hD1 G2 g2 g3 g24 hg hT0 hfl
        go_region_held3 (fun V => w5.grownBy V none ∧ V.rangeAt w3.heap.size 0 ((F 0).map bv))
          ((go_split_ands; refine ⟨?_, ?_⟩ <;> (first | assumption | (apply gb_drew; assumption) | (apply gb_alloc; assumption) | (apply World.rangeAt_alloc; assumption) | (rw [World.rangeAt_drew]; assumption))))
          (first
            | (go_at_call 7; refine (cs _ ?_ _ _ _ ?_).mono ?_; (first | assumption | (apply gb_drew; assumption)); (first | exact Or.inr ⟨rfl, rfl, rfl⟩ | exact Or.inl ⟨rfl, rfl, rfl⟩); rintro e w' ⟨rfl, gg, gr⟩)
            | (go_at_call 12; refine (ch _ ?_ _ ?_).mono ?_; (first | assumption | (apply gb_drew; assumption)); (first | exact Or.inl rfl | exact Or.inr rfl); rintro e w' ⟨rfl, gg, gr⟩)
            | (go_at_call 13; refine (cl _ ?_).mono ?_; (first | assumption | (apply gb_drew; assumption)); rintro e w' ⟨rfl, gg, gr⟩)
            | (go_at_call 9; refine (c1 _ ?_).mono ?_; (first | assumption | (apply gb_drew; assumption)); rintro e w' ⟨rfl, gg, gr⟩))
        go_wp2
        go_ret
        exact ⟨rfl, gb_trans (unhide HG5) (by assumption) (fun _ e => by cases e)⟩

end Go.Proofs.YtlonnnainkbegaaDoor
