/- What layer 6's functions are to answer (AeadC: proved apart, for the landed code). -/
import Derived.Test.YtjckdgapefaokaaDoorBMath
import Derived.Test.YtjckdgapefaokaaDoorCStream
import Derived.Test.YtjckdgapefaokaaDoorMStr
import Derived.Test.YtjckdgapefaokaaDoorPSlice
import Derived.Test.YtjckdgapefaokaaDoorDKeep
import Derived.Test.YtjckdgapefaokaaDoorBKeep
namespace Go.Proofs.YtjckdgapefaokaaDoor
open Go.RowKit

/-- What Seal, Open and Tag answer. -/
structure AeadC : Prop where
  sealed : ∀ (w : World) (k n be t : List UInt8) (bo xo : Option Addr) (cb cx : Nat), k.length = 32 → n.length = 12 → Bts w bo cb be → Bts w xo cx t → be.length ≤ 2000 → t.length ≤ 2000 → CTab w →
    Calls Tryd.prog 23 #[.agg (k.map bv).toArray, .agg (n.map bv).toArray, .slice bo be.length cb, .slice xo t.length cx] w fun e w' => ∃ v, e = .returned v ∧ NewB w w' v (sealL k n be t) ∧ w.grownBy w' none
  opened : ∀ (w : World) (k n be y : List UInt8) (bo xo : Option Addr) (cb cx : Nat), k.length = 32 → n.length = 12 → Bts w bo cb be → Bts w xo cx y → be.length ≤ 2000 → y.length ≤ 2000 → CTab w →
    Calls Tryd.prog 47 #[.agg (k.map bv).toArray, .agg (n.map bv).toArray, .slice bo be.length cb, .slice xo y.length cx] w fun e w' => ∃ v, e = .returned (.tuple #[v, .bool (openB k n be y)]) ∧ NewB w w' v (openL k n be y) ∧ w.grownBy w' none
  tag : ∀ (w : World) (k n be x : List UInt8) (bo xo : Option Addr) (cb cx : Nat), k.length = 32 → n.length = 12 → Bts w bo cb be → Bts w xo cx x → be.length ≤ 2000 → x.length ≤ 2000 → CTab w →
    Calls Tryd.prog 38 #[.agg (k.map bv).toArray, .agg (n.map bv).toArray, .slice bo be.length cb, .slice xo x.length cx] w fun e w' => e = .returned (.agg ((tagA k n be x).map bv).toArray) ∧ w.grownBy w' none

theorem Bts.short {w : World} {ao : Option Addr} {c : Nat} {l : List UInt8} (h : Bts w ao c l) (m : Nat) : Bts w ao c (l.take m) := by
  by_cases hm : m ≤ l.length
  · exact h.take m hm
  · rw [List.take_of_length_le (by omega)]; exact h

end Go.Proofs.YtjckdgapefaokaaDoor

/- What Seal answers, by what Tag answers. -/
namespace Go.Proofs.YtjckdgapefaokaaDoor
open Go.RowKit

/-- A block that is known whole is a row of the call's own. -/
theorem own_of_blk {V : World} {base b : Nat} {l : List UInt8} (h : Blk V b 5 (l.map bv)) (hb : base ≤ b) (hl : l.length ≤ maxLen) : V.ownsRow base 5 1 (.slice (some ⟨b, 0, none⟩) l.length l.length) l.length (l.map bv) :=
  ⟨by simp, .inr ⟨b, l.length, (l.map bv).toArray, rfl, hb, h, Nat.le_refl _, hl, by simp, by rw [Nat.mul_one]; exact List.take_of_length_le (by simp)⟩⟩
theorem own_at {V : World} {base b m : Nat} {l : List UInt8} (h : Blk V b 5 (l.map bv)) (hb : base ≤ b) (hm : m = l.length) (h2 : m ≤ 2000) : V.ownsRow base 5 1 (.slice (some ⟨b, 0, none⟩) m m) m (l.map bv) := by
  subst hm
  exact own_of_blk h hb (by unfold maxLen; omega)
def TagC : Prop := ∀ (w : World) (k n be x : List UInt8) (bo xo : Option Addr) (cb cx : Nat), k.length = 32 → n.length = 12 → Bts w bo cb be → Bts w xo cx x → be.length ≤ 2000 → x.length ≤ 2000 → CTab w →
    Calls Tryd.prog 38 #[.agg (k.map bv).toArray, .agg (n.map bv).toArray, .slice bo be.length cb, .slice xo x.length cx] w fun e w' => e = .returned (.agg ((tagA k n be x).map bv).toArray) ∧ w.grownBy w' none
theorem zero16s (w : World) : (zeroValue 93).run Tryd.prog w = .ok (.agg ((List.replicate 16 (0 : UInt8)).map bv).toArray) w := by kernel_rfl
theorem new_row16 (w2 : World) (Z : Array Value) (hZ : Z = ((List.replicate 16 (0 : UInt8)).map bv).toArray) (T : List UInt8) : ∃ W3, W3 = (w2.alloc (.cells Z 93)).setRow w2.heap.size (T.map bv).toArray ∧ Blk W3 w2.heap.size 93 (T.map bv) ∧ w2.grownBy W3 none := by
  refine ⟨_, rfl, ?_, gb_row (gb_alloc (gb_refl _ _) _) _ (Or.inl (Nat.le_refl _))⟩
  subst hZ
  exact (Blk.new w2 93 ((List.replicate 16 (0 : UInt8)).map bv)).row _

set_option maxRecDepth 100000 in
set_option maxHeartbeats 1000000 in
theorem seal_of (hTag : TagC) (w : World) (k n be t : List UInt8) (bo xo : Option Addr) (cb cx : Nat) (hk : k.length = 32) (hn : n.length = 12) (hb : Bts w bo cb be) (hx : Bts w xo cx t) (hbe : be.length ≤ 2000) (ht : t.length ≤ 2000) (hT : CTab w) :
    Calls Tryd.prog 23 #[.agg (k.map bv).toArray, .agg (n.map bv).toArray, .slice bo be.length cb, .slice xo t.length cx] w fun e w' => ∃ v, e = .returned v ∧ NewB w w' v (sealL k n be t) ∧ w.grownBy w' none := by
  have tr : ∀ {x y z : World}, x.grownBy y none → y.grownBy z none → x.grownBy z none := fun h k => gb_trans h k (fun _ e => by cases e)
  have hi32 : (Tryd.prog.info? 37).map (·.size) = some 32 := by kernel_rfl
  have hi12 : (Tryd.prog.info? 64).map (·.size) = some 12 := by kernel_rfl
  have hi16 : (Tryd.prog.info? 93).map (·.size) = some 16 := by kernel_rfl
  obtain ⟨Z, hZ⟩ : ∃ A : Array Value, A = ((List.replicate 16 (0 : UInt8)).map bv).toArray := ⟨_, rfl⟩
  have hz : ∀ w : World, (zeroValue 93).run Tryd.prog w = .ok (.agg Z) w := by rw [hZ]; exact zero16s
  obtain ⟨KA, hKA⟩ : ∃ A : Array Value, A = (k.map bv).toArray := ⟨_, rfl⟩
  obtain ⟨NA, hNA⟩ : ∃ A : Array Value, A = (n.map bv).toArray := ⟨_, rfl⟩
  have hsK : KA.size = 32 := by rw [hKA]; simp [hk]
  have hsN : NA.size = 12 := by rw [hNA]; simp [hn]
  obtain ⟨W1, hW1⟩ : ∃ W1, W1 = (w.alloc (.cells KA 37)).alloc (.cells NA 64) := ⟨_, rfl⟩
  have hs1 : W1.heap.size = w.heap.size + 2 := by rw [hW1, World.size_alloc, World.size_alloc]
  have hg1 : w.grownBy W1 none := by rw [hW1]; exact gb_alloc (gb_alloc (gb_refl _ _) _) _
  have hK1 : Blk W1 w.heap.size 37 (k.map bv) := by rw [hW1, hKA]; exact (Blk.new w 37 _).alloc _
  have hN1 : Blk W1 (w.heap.size + 1) 64 (n.map bv) := by
    have := Blk.new (w.alloc (.cells KA 37)) 64 (n.map bv)
    rw [World.size_alloc] at this
    rw [hW1, hNA]; exact this
  have kb : ∀ V, W1.grownBy V none → V.heap[w.heap.size]? = some (.cells KA 37 (0, 0)) := fun V gV => by rw [hKA]; exact hK1.kept gV (by simp)
  have nb : ∀ V, W1.grownBy V none → V.heap[w.heap.size + 1]? = some (.cells NA 64 (0, 0)) := fun V gV => by rw [hNA]; exact hN1.kept gV (by simp)
  obtain ⟨s, hs⟩ : ∃ s, s = streamL k n 1 t := ⟨_, rfl⟩
  have hsl : s.length = t.length := by rw [hs, streamL_length]
  obtain ⟨T, hTg⟩ : ∃ T, T = tagA k n be s := ⟨_, rfl⟩
  have hTl : T.length = 16 := by rw [hTg]; exact tagA_length _ _ _ _
  have hsT : ((T.map bv).toArray).size = 16 := by simp [hTl]
  have hseal : sealL k n be t = s ++ T := by rw [sealL, hTg, hs]
  have cSt : ∀ V, w.grownBy V none → Calls Tryd.prog 37 #[.agg KA, .agg NA, .int .u32 1, .slice xo t.length cx] V fun e w' => e = .returned (.slice (some ⟨V.heap.size + 2, 0, none⟩) s.length s.length) ∧ Blk w' (V.heap.size + 2) 5 (s.map bv) ∧ V.grownBy w' none := fun V gV => by
    have h := stream_any V k n 1 hk hn xo cx t (hx.kept gV (fun _ e => by cases e)) (by omega) (hT.kept0 gV)
    rw [show wz 1 = 1 from rfl, ← hs, ← hKA, ← hNA] at h
    rw [hsl]; exact h
  have cTg : ∀ V p, w.grownBy V none → Blk V p 5 (s.map bv) → Calls Tryd.prog 38 #[.agg KA, .agg NA, .slice bo be.length cb, .slice (some ⟨p, 0, none⟩) s.length s.length] V fun e w' => e = .returned (.agg (T.map bv).toArray) ∧ V.grownBy w' none := fun V p gV hB => by
    have h := hTag V k n be s bo (some ⟨p, 0, none⟩) cb s.length hk hn (hb.kept gV (fun _ e => by cases e)) (blk_bytes hB s.length (Nat.le_refl _) (by unfold maxLen; omega)) hbe (by omega) (hT.kept0 gV)
    rw [← hTg, ← hKA, ← hNA] at h
    exact h
  have slT : ∀ (p : Nat) (W : World), (Instr.sliceAt 93 (.pointer (some ⟨p, 0, none⟩)) none none none).run Tryd.prog W = .ok (.slice (some ⟨p, 0, none⟩) 16 16) W := fun p W => slice_whole5 93 5 16 Tryd.underlying93 size_byte p 0 (by omega) W
  obtain ⟨m, hm⟩ : ∃ m, m = s.length := ⟨_, rfl⟩
  have hm2 : m ≤ 2000 := by omega
  rw [← hKA, ← hNA, hseal]
  rw [← hm] at cSt cTg
  have HKB := hide kb
  have HNB := hide nb
  have HSK := hide hsK
  have HSN := hide hsN
  have HST := hide hsT
  have HTL := hide hTl
  have HW1 := hide hW1
  have HZ := hide hZ
  have HM := hide hm
  clear hKA hNA hsK hsN hW1 hK1 hN1 kb nb hs hsl hTg hTl hsT hseal hZ hm hb hx hT hTag hk hn hbe ht
  go_enter Tryd.func23, Tryd.ntmps23
  go_wp2_with (first
    | (rw [← unhide HW1]; clear HW1; have gg := gb_refl W1 none; refine wpList_load_row rfl 37 _ rfl w.heap.size rfl _ _ _ _ (unhide HKB _ gg) Tryd.underlying37 rfl ?_ ?_; (rw [unhide HSK]; exact hi32))
    | (refine wpList_load_row rfl 37 _ rfl w.heap.size rfl _ _ _ _ (unhide HKB _ gg) Tryd.underlying37 rfl ?_ ?_; (rw [unhide HSK]; exact hi32))
    | (refine wpList_load_row rfl 64 _ rfl (w.heap.size + 1) rfl _ _ _ _ (unhide HNB _ gg) Tryd.underlying64 rfl ?_ ?_; (rw [unhide HSN]; exact hi12))
    | (go_at_call 37; refine (cSt _ hg1).mono ?_; rintro e w2 ⟨rfl, hS2, g2⟩; clear cSt; rw [hs1] at hS2; clear gg; have gg := g2; have HS2 := hide hS2; clear hS2)
    | (go_at_call 38; refine (cTg _ _ (tr hg1 gg) (unhide HS2)).mono ?_; rintro e w3 ⟨rfl, g3⟩; clear cTg)
    | (refine wpList_store_row rfl 93 _ _ rfl w3.heap.size _ rfl rfl _ _ (heap_alloc_new w3 (.cells Z 93)) ?_ ?_ ?_ ?_; (rw [unhide HST]; exact hi16); (rw [unhide HST, unhide HZ]; rfl); (exact all_oneCell_toArray (bv_one _)); obtain ⟨W4, hW4, hT4, g4⟩ := new_row16 w3 Z (unhide HZ) T; rw [← hW4]; clear hW4; have hO4 := own_at (base := w.heap.size) ((unhide HS2).kept (tr g3 g4) (by simp)) (by omega) (unhide HM) hm2; have hB4 := blk_bytes hT4 16 (by rw [unhide HTL]; omega) (by decide); have HO4 := hide hO4; have HB4 := hide hB4; have GG4 := tr hg1 (tr gg (tr g3 g4)); clear hT4 hO4 hB4)
    | (refine wpList_append_btm rfl _ _ rfl w.heap.size _ m (s.map bv) rfl (unhide HO4) _ 16 T (unhide HB4) 16 (unhide HTL).symm rfl (by omega) GG4.size ?_; intro v5 w5 hO5 g5))
  have hO6 : w5.ownsRow w.heap.size 5 1 v5 (s ++ T).length ((s ++ T).map bv) := by
    rw [List.length_append, List.map_append, unhide HTL, ← unhide HM]; exact hO5
  have GG5 : w.grownBy w5 none := gb_trans GG4 g5 (fun x e => Or.inl (by
    have e2 : some (w.heap.size + 2 + 2) = some x := e
    injection e2 with e3
    omega))
  go_ret
  exact ⟨_, rfl, NewB.own hO6, GG5⟩
end Go.Proofs.YtjckdgapefaokaaDoor

/- What box's own drawFor answers: as many bytes as are asked for, and 28, of the source. Where fewer than 2 to the 45 were told. -/
namespace Go.Proofs.YtjckdgapefaokaaDoor
open Go.RowKit

/-- Take, its answer in memory of its own. -/
theorem take_own (w : World) (b : Nat) (T : List UInt8) (us n : Nat) (h : SrcAt w b T us) (hT : Tabs w) (hn : n ≤ 65536) (hus : us ≤ 70368744177664) :
    Calls Tryd.prog 22 #[.pointer (some ⟨b, 0, none⟩), .int .i64 (n : Int)] w fun e w' => ∃ v, e = .returned v ∧ w'.ownsRow w.heap.size 5 1 v n ((told T us n).map bv) ∧ SrcAt w' b T (us + n) ∧ w.grownBy w' (some b) := by
  by_cases h0 : n = 0
  · subst h0
    refine (take_few w b ((0 : Nat) : Int) (by omega)).mono ?_
    rintro e w' ⟨rfl, rfl⟩
    exact ⟨_, rfl, World.ownsRow_nil _ _ _ _, h, gb_refl _ _⟩
  · refine (take_some w b T us n h.fit hT (by omega) hn hus).mono ?_
    rintro e w' ⟨g, rfl, hg, hB, hS, gg⟩
    have := own_of_blk hB hg (by rw [told_length]; unfold maxLen; omega)
    rw [told_length] at this
    exact ⟨_, rfl, this, hS, gg⟩

theorem BoxAt.drawn {u w a : World} {bb bs bm n : Nat} {B : BoxS} (h : BoxAt u w bb bs bm B) (g : w.grownBy a (some bs)) (hS : SrcAt a bs B.T n) : BoxAt u a bb bs bm { B with u := n } :=
  ⟨h.nb, h.ns, h.nm, h.blk.kept g (fun e => h.bs_ne (by cases e; rfl)), hS, h.map.kept g (fun e => h.map.blk h.src.blk (by cases e; rfl))⟩

theorem By3.src {w a : World} {bb bs bm : Nat} (g : w.grownBy a (some bs)) : By3 w a bb bs bm := (By3.refl w bb bs bm).by g (fun x e => by cases e; exact Or.inr (Or.inr (Or.inl rfl)))

set_option maxRecDepth 100000 in
set_option maxHeartbeats 1000000 in
theorem drawFor_any (u w : World) (bb bs bm : Nat) (B : BoxS) (n : Nat) (h : BoxAt u w bb bs bm B) (gu : u.grownBy w none) (hT : Tabs u) (hn : n ≤ 2000) (hus : B.u ≤ 35184372088832) :
    Calls Tryd.prog 43 #[.pointer (some ⟨bb, 0, none⟩), .int .i64 (n : Int)] w fun e w' => ∃ ao c, e = .returned (.slice ao (n + 28) c) ∧ BtT w' ao c (told B.T B.u (n + 28)) ∧ BoxAt u w' bb bs bm { B with u := B.u + (n + 28) } ∧ By3 w w' bb bs bm := by
  have hc1 := h.cell.2.1
  have ct1 := take_own w bs B.T B.u n h.src (hT.kept0 gu) (by omega) (by omega)
  have ct2 : ∀ V v, BoxAt u V bb bs bm { B with u := B.u + n } → By3 w V bb bs bm → V.ownsRow w.heap.size 5 1 v n ((told B.T B.u n).map bv) → Calls Tryd.prog 22 #[.pointer (some ⟨bs, 0, none⟩), .int .i64 28] V fun e w' => ∃ ao c, e = .returned (.slice ao 28 c) ∧ Bts w' ao c (told B.T (B.u + n) 28) ∧ w'.ownsRow w.heap.size 5 1 v n ((told B.T B.u n).map bv) ∧ BoxAt u w' bb bs bm { B with u := B.u + (n + 28) } ∧ By3 w w' bb bs bm := fun V v hV gV hv =>
    (take_law V bs B.T (B.u + n) 28 hV.src (hT.kept0 (by3_gb gu gV h.nb h.ns h.nm)) (by omega) (by omega)).mono fun e w' ⟨ao, c, he, hB, hS, gg⟩ =>
      ⟨ao, c, he, hB.bts, own_src hv hV.src gg, (hV.drawn gg hS).with _ rfl rfl (by simp only; omega) rfl, gV.trans (By3.src gg)⟩
  have hfin : ∀ V ao c v V', Bts V ao c (told B.T (B.u + n) 28) → BoxAt u V bb bs bm { B with u := B.u + (n + 28) } → By3 w V bb bs bm → V.ownsRow w.heap.size 5 1 v n ((told B.T B.u n).map bv) → ∀ v', V'.ownsRow w.heap.size 5 1 v' (n + 28) ((told B.T B.u n).map bv ++ (told B.T (B.u + n) 28).map bv) → V.grownBy V' v.ownBlock →
      ∃ ao c, v' = .slice ao (n + 28) c ∧ BtT V' ao c (told B.T B.u (n + 28)) ∧ BoxAt u V' bb bs bm { B with u := B.u + (n + 28) } ∧ By3 w V' bb bs bm := fun V ao c v V' _ hV gV hv v' hv' gg => by
    rw [← List.map_append, ← told_add] at hv'
    obtain ⟨ao', c', he, hB⟩ := own_btT hv'
    rw [told_length] at he
    exact ⟨ao', c', he, hB, hV.own hv gg, gV.by gg (fun x e => Or.inl (hv.lt x e).1)⟩
  have hb0 : w.heap.size ≤ w.heap.size := Nat.le_refl _
  have hst : ∀ V v, V.ownsRow w.heap.size 5 1 v n ((told B.T B.u n).map bv) → w.grownBy V (some bs) → SrcAt V bs B.T (B.u + n) → BoxAt u V bb bs bm { B with u := B.u + n } ∧ By3 w V bb bs bm ∧ V.cell? ⟨bb, 1, none⟩ = some (.pointer (some ⟨bs, 0, none⟩)) := fun V v _ gg hS => by
    have h1 := h.drawn gg hS
    exact ⟨h1, By3.src gg, h1.cell.2.1⟩
  have htl : (told B.T (B.u + n) 28).length = 28 := told_length _ _ _
  obtain ⟨XA, hXA⟩ : ∃ X, X = (told B.T B.u n).map bv := ⟨_, rfl⟩
  obtain ⟨Y, hY⟩ : ∃ X, X = told B.T (B.u + n) 28 := ⟨_, rfl⟩
  rw [← hXA] at ct1
  simp only [← hXA, ← hY] at ct2 hfin hst
  rw [← hY] at htl
  have HTL := hide htl
  have HFIN := hide hfin
  have HST := hide hst
  have HC2 := hide ct2
  clear h hT hXA hY htl hfin hst ct2 gu
  go_enter Tryd.func43, Tryd.ntmps43
  go_upto_region 2 with (go_at_call 22; refine ct1.mono ?_; rintro e w1 ⟨v1, rfl, hv1, hS1, g1⟩)
  obtain ⟨hB1, b1, hc11⟩ := unhide HST w1 v1 hv1 g1 hS1
  have ct2 := unhide HC2 w1 v1 hB1 b1 hv1
  clear ct1 HC2 HST hS1 g1 hB1 hv1
  have hsz := b1.size
  clear b1
  go_wp2_with (first
    | (go_at_call 22; refine ct2.mono ?_; rintro e w2 ⟨a2, c2, rfl, hY2, hv2, hB2, b2⟩; clear ct2)
    | (refine wpList_append_btm rfl _ _ rfl w.heap.size _ n _ rfl hv2 a2 c2 Y hY2 28 (unhide HTL).symm rfl (by omega) b2.size ?_; intro v3 w3 hv3 g3; have hf3 := unhide HFIN w2 a2 c2 v1 w3 hY2 hB2 b2 hv2 v3 hv3 g3; clear hv3 g3))
  go_ret
  obtain ⟨ao, c, he, hr⟩ := hf3
  exact ⟨ao, c, by rw [he]; rfl, hr⟩

end Go.Proofs.YtjckdgapefaokaaDoor
