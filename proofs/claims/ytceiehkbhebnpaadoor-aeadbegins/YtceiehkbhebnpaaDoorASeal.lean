/- What Seal answers, by what Tag answers. -/
import Derived.Test.YtceiehkbhebnpaaDoorALaw
import Derived.Test.YtceiehkbhebnpaaDoorMApp
namespace Go.Proofs.YtceiehkbhebnpaaDoor
open Go.RowKit

/-- A block that is known whole is a row of the call's own. -/
theorem own_of_blk {V : World} {base b : Nat} {l : List UInt8} (h : Blk V b 5 (l.map bv)) (hb : base ≤ b) (hl : l.length ≤ maxLen) : V.ownsRow base 5 1 (.slice (some ⟨b, 0, none⟩) l.length l.length) l.length (l.map bv) :=
  ⟨by simp, .inr ⟨b, l.length, (l.map bv).toArray, rfl, hb, h, Nat.le_refl _, hl, by simp, by rw [Nat.mul_one]; exact List.take_of_length_le (by simp)⟩⟩
theorem own_at {V : World} {base b m : Nat} {l : List UInt8} (h : Blk V b 5 (l.map bv)) (hb : base ≤ b) (hm : m = l.length) (h2 : m ≤ 2000) : V.ownsRow base 5 1 (.slice (some ⟨b, 0, none⟩) m m) m (l.map bv) := by
  subst hm
  exact own_of_blk h hb (by unfold maxLen; omega)
def TagC : Prop := ∀ (w : World) (k n be x : List UInt8) (bo xo : Option Addr) (cb cx : Nat), k.length = 32 → n.length = 12 → Bts w bo cb be → Bts w xo cx x → be.length ≤ 2000 → x.length ≤ 2000 → CTab w →
    Calls Tryd.prog 8 #[.agg (k.map bv).toArray, .agg (n.map bv).toArray, .slice bo be.length cb, .slice xo x.length cx] w fun e w' => e = .returned (.agg ((tagA k n be x).map bv).toArray) ∧ w.grownBy w' none
theorem zero16s (w : World) : (zeroValue 29).run Tryd.prog w = .ok (.agg ((List.replicate 16 (0 : UInt8)).map bv).toArray) w := by kernel_rfl
theorem new_row16 (w2 : World) (Z : Array Value) (hZ : Z = ((List.replicate 16 (0 : UInt8)).map bv).toArray) (T : List UInt8) : ∃ W3, W3 = (w2.alloc (.cells Z 29)).setRow w2.heap.size (T.map bv).toArray ∧ Blk W3 w2.heap.size 29 (T.map bv) ∧ w2.grownBy W3 none := by
  refine ⟨_, rfl, ?_, gb_row (gb_alloc (gb_refl _ _) _) _ (Or.inl (Nat.le_refl _))⟩
  subst hZ
  exact (Blk.new w2 29 ((List.replicate 16 (0 : UInt8)).map bv)).row _

set_option maxRecDepth 100000 in
set_option maxHeartbeats 1000000 in
theorem seal_of (hTag : TagC) (w : World) (k n be t : List UInt8) (bo xo : Option Addr) (cb cx : Nat) (hk : k.length = 32) (hn : n.length = 12) (hb : Bts w bo cb be) (hx : Bts w xo cx t) (hbe : be.length ≤ 2000) (ht : t.length ≤ 2000) (hT : CTab w) :
    Calls Tryd.prog 7 #[.agg (k.map bv).toArray, .agg (n.map bv).toArray, .slice bo be.length cb, .slice xo t.length cx] w fun e w' => ∃ v, e = .returned v ∧ NewB w w' v (sealL k n be t) ∧ w.grownBy w' none := by
  have tr : ∀ {x y z : World}, x.grownBy y none → y.grownBy z none → x.grownBy z none := fun h k => gb_trans h k (fun _ e => by cases e)
  have hi32 : (Tryd.prog.info? 23).map (·.size) = some 32 := by kernel_rfl
  have hi12 : (Tryd.prog.info? 27).map (·.size) = some 12 := by kernel_rfl
  have hi16 : (Tryd.prog.info? 29).map (·.size) = some 16 := by kernel_rfl
  obtain ⟨Z, hZ⟩ : ∃ A : Array Value, A = ((List.replicate 16 (0 : UInt8)).map bv).toArray := ⟨_, rfl⟩
  have hz : ∀ w : World, (zeroValue 29).run Tryd.prog w = .ok (.agg Z) w := by rw [hZ]; exact zero16s
  obtain ⟨KA, hKA⟩ : ∃ A : Array Value, A = (k.map bv).toArray := ⟨_, rfl⟩
  obtain ⟨NA, hNA⟩ : ∃ A : Array Value, A = (n.map bv).toArray := ⟨_, rfl⟩
  have hsK : KA.size = 32 := by rw [hKA]; simp [hk]
  have hsN : NA.size = 12 := by rw [hNA]; simp [hn]
  obtain ⟨W1, hW1⟩ : ∃ W1, W1 = (w.alloc (.cells KA 23)).alloc (.cells NA 27) := ⟨_, rfl⟩
  have hs1 : W1.heap.size = w.heap.size + 2 := by rw [hW1, World.size_alloc, World.size_alloc]
  have hg1 : w.grownBy W1 none := by rw [hW1]; exact gb_alloc (gb_alloc (gb_refl _ _) _) _
  have hK1 : Blk W1 w.heap.size 23 (k.map bv) := by rw [hW1, hKA]; exact (Blk.new w 23 _).alloc _
  have hN1 : Blk W1 (w.heap.size + 1) 27 (n.map bv) := by
    have := Blk.new (w.alloc (.cells KA 23)) 27 (n.map bv)
    rw [World.size_alloc] at this
    rw [hW1, hNA]; exact this
  have kb : ∀ V, W1.grownBy V none → V.heap[w.heap.size]? = some (.cells KA 23 (0, 0)) := fun V gV => by rw [hKA]; exact hK1.kept gV (by simp)
  have nb : ∀ V, W1.grownBy V none → V.heap[w.heap.size + 1]? = some (.cells NA 27 (0, 0)) := fun V gV => by rw [hNA]; exact hN1.kept gV (by simp)
  obtain ⟨s, hs⟩ : ∃ s, s = streamL k n 1 t := ⟨_, rfl⟩
  have hsl : s.length = t.length := by rw [hs, streamL_length]
  obtain ⟨T, hTg⟩ : ∃ T, T = tagA k n be s := ⟨_, rfl⟩
  have hTl : T.length = 16 := by rw [hTg]; exact tagA_length _ _ _ _
  have hsT : ((T.map bv).toArray).size = 16 := by simp [hTl]
  have hseal : sealL k n be t = s ++ T := by rw [sealL, hTg, hs]
  have cSt : ∀ V, w.grownBy V none → Calls Tryd.prog 14 #[.agg KA, .agg NA, .int .u32 1, .slice xo t.length cx] V fun e w' => e = .returned (.slice (some ⟨V.heap.size + 2, 0, none⟩) s.length s.length) ∧ Blk w' (V.heap.size + 2) 5 (s.map bv) ∧ V.grownBy w' none := fun V gV => by
    have h := stream_any V k n 1 hk hn xo cx t (hx.kept gV (fun _ e => by cases e)) (by omega) (hT.kept0 gV)
    rw [show wz 1 = 1 from rfl, ← hs, ← hKA, ← hNA] at h
    rw [hsl]; exact h
  have cTg : ∀ V p, w.grownBy V none → Blk V p 5 (s.map bv) → Calls Tryd.prog 8 #[.agg KA, .agg NA, .slice bo be.length cb, .slice (some ⟨p, 0, none⟩) s.length s.length] V fun e w' => e = .returned (.agg (T.map bv).toArray) ∧ V.grownBy w' none := fun V p gV hB => by
    have h := hTag V k n be s bo (some ⟨p, 0, none⟩) cb s.length hk hn (hb.kept gV (fun _ e => by cases e)) (blk_bytes hB s.length (Nat.le_refl _) (by unfold maxLen; omega)) hbe (by omega) (hT.kept0 gV)
    rw [← hTg, ← hKA, ← hNA] at h
    exact h
  have slT : ∀ (p : Nat) (W : World), (Instr.sliceAt 29 (.pointer (some ⟨p, 0, none⟩)) none none none).run Tryd.prog W = .ok (.slice (some ⟨p, 0, none⟩) 16 16) W := fun p W => slice_whole5 29 5 16 Tryd.underlying29 size_byte p 0 (by omega) W
  obtain ⟨m, hm⟩ : ∃ m, m = s.length := ⟨_, rfl⟩
  have hm2 : m ≤ 2000 := by omega
  rw [← hKA, ← hNA, hseal]
  rw [← hm] at cSt cTg
  have HKB := hide kb
  have HNB := hide nb
  have HSK := hide hsK
  have HSN := hide hsN
  have HST := hide hsT
  have HTL := hide hTl
  have HW1 := hide hW1
  have HZ := hide hZ
  have HM := hide hm
  clear hKA hNA hsK hsN hW1 hK1 hN1 kb nb hs hsl hTg hTl hsT hseal hZ hm hb hx hT hTag hk hn hbe ht
  go_enter Tryd.func7, Tryd.ntmps7
  go_wp2_with (first
    | (rw [← unhide HW1]; clear HW1; have gg := gb_refl W1 none; refine wpList_load_row rfl 23 _ rfl w.heap.size rfl _ _ _ _ (unhide HKB _ gg) Tryd.underlying23 rfl ?_ ?_; (rw [unhide HSK]; exact hi32))
    | (refine wpList_load_row rfl 23 _ rfl w.heap.size rfl _ _ _ _ (unhide HKB _ gg) Tryd.underlying23 rfl ?_ ?_; (rw [unhide HSK]; exact hi32))
    | (refine wpList_load_row rfl 27 _ rfl (w.heap.size + 1) rfl _ _ _ _ (unhide HNB _ gg) Tryd.underlying27 rfl ?_ ?_; (rw [unhide HSN]; exact hi12))
    | (go_at_call 14; refine (cSt _ hg1).mono ?_; rintro e w2 ⟨rfl, hS2, g2⟩; clear cSt; rw [hs1] at hS2; clear gg; have gg := g2; have HS2 := hide hS2; clear hS2)
    | (go_at_call 8; refine (cTg _ _ (tr hg1 gg) (unhide HS2)).mono ?_; rintro e w3 ⟨rfl, g3⟩; clear cTg)
    | (refine wpList_store_row rfl 29 _ _ rfl w3.heap.size _ rfl rfl _ _ (heap_alloc_new w3 (.cells Z 29)) ?_ ?_ ?_ ?_; (rw [unhide HST]; exact hi16); (rw [unhide HST, unhide HZ]; rfl); (exact all_oneCell_toArray (bv_one _)); obtain ⟨W4, hW4, hT4, g4⟩ := new_row16 w3 Z (unhide HZ) T; rw [← hW4]; clear hW4; have hO4 := own_at (base := w.heap.size) ((unhide HS2).kept (tr g3 g4) (by simp)) (by omega) (unhide HM) hm2; have hB4 := blk_bytes hT4 16 (by rw [unhide HTL]; omega) (by decide); have HO4 := hide hO4; have HB4 := hide hB4; have GG4 := tr hg1 (tr gg (tr g3 g4)); clear hT4 hO4 hB4)
    | (refine wpList_append_btm rfl _ _ rfl w.heap.size _ m (s.map bv) rfl (unhide HO4) _ 16 T (unhide HB4) 16 (unhide HTL).symm rfl (by omega) GG4.size ?_; intro v5 w5 hO5 g5))
  have hO6 : w5.ownsRow w.heap.size 5 1 v5 (s ++ T).length ((s ++ T).map bv) := by
    rw [List.length_append, List.map_append, unhide HTL, ← unhide HM]; exact hO5
  have GG5 : w.grownBy w5 none := gb_trans GG4 g5 (fun x e => Or.inl (by
    have e2 : some (w.heap.size + 2 + 2) = some x := e
    injection e2 with e3
    omega))
  go_ret
  exact ⟨_, rfl, NewB.own hO6, GG5⟩
end Go.Proofs.YtceiehkbhebnpaaDoor
