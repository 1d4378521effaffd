/- What layer 6's functions are to answer (AeadC: proved apart, for the landed code). -/
import Derived.Test.YtjckdgapefaokaaDoorMMake
import Derived.Test.YtjckdgapefaokaaDoorCStream
import Derived.Test.YtjckdgapefaokaaDoorDPut
import Derived.Test.YtjckdgapefaokaaDoorMLst
import Derived.Test.YtjckdgapefaokaaDoorKEqual
import Derived.Test.YtjckdgapefaokaaDoorMApp
import Derived.Test.YtjckdgapefaokaaDoorBMath
namespace Go.Proofs.YtjckdgapefaokaaDoor
open Go.RowKit

/-- What Seal, Open and Tag answer. -/
structure AeadC : Prop where
  sealed : ∀ (w : World) (k n be t : List UInt8) (bo xo : Option Addr) (cb cx : Nat), k.length = 32 → n.length = 12 → Bts w bo cb be → Bts w xo cx t → be.length ≤ 2000 → t.length ≤ 2000 → CTab w →
    Calls Tryd.prog 23 #[.agg (k.map bv).toArray, .agg (n.map bv).toArray, .slice bo be.length cb, .slice xo t.length cx] w fun e w' => ∃ v, e = .returned v ∧ NewB w w' v (sealL k n be t) ∧ w.grownBy w' none
  opened : ∀ (w : World) (k n be y : List UInt8) (bo xo : Option Addr) (cb cx : Nat), k.length = 32 → n.length = 12 → Bts w bo cb be → Bts w xo cx y → be.length ≤ 2000 → y.length ≤ 2000 → CTab w →
    Calls Tryd.prog 47 #[.agg (k.map bv).toArray, .agg (n.map bv).toArray, .slice bo be.length cb, .slice xo y.length cx] w fun e w' => ∃ v, e = .returned (.tuple #[v, .bool (openB k n be y)]) ∧ NewB w w' v (openL k n be y) ∧ w.grownBy w' none
  tag : ∀ (w : World) (k n be x : List UInt8) (bo xo : Option Addr) (cb cx : Nat), k.length = 32 → n.length = 12 → Bts w bo cb be → Bts w xo cx x → be.length ≤ 2000 → x.length ≤ 2000 → CTab w →
    Calls Tryd.prog 38 #[.agg (k.map bv).toArray, .agg (n.map bv).toArray, .slice bo be.length cb, .slice xo x.length cx] w fun e w' => e = .returned (.agg ((tagA k n be x).map bv).toArray) ∧ w.grownBy w' none

theorem Bts.short {w : World} {ao : Option Addr} {c : Nat} {l : List UInt8} (h : Bts w ao c l) (m : Nat) : Bts w ao c (l.take m) := by
  by_cases hm : m ≤ l.length
  · exact h.take m hm
  · rw [List.take_of_length_le (by omega)]; exact h

end Go.Proofs.YtjckdgapefaokaaDoor

/- What Seal answers, by what Tag answers. -/
namespace Go.Proofs.YtjckdgapefaokaaDoor
open Go.RowKit

/-- A block that is known whole is a row of the call's own. -/
theorem own_of_blk {V : World} {base b : Nat} {l : List UInt8} (h : Blk V b 5 (l.map bv)) (hb : base ≤ b) (hl : l.length ≤ maxLen) : V.ownsRow base 5 1 (.slice (some ⟨b, 0, none⟩) l.length l.length) l.length (l.map bv) :=
  ⟨by simp, .inr ⟨b, l.length, (l.map bv).toArray, rfl, hb, h, Nat.le_refl _, hl, by simp, by rw [Nat.mul_one]; exact List.take_of_length_le (by simp)⟩⟩
theorem own_at {V : World} {base b m : Nat} {l : List UInt8} (h : Blk V b 5 (l.map bv)) (hb : base ≤ b) (hm : m = l.length) (h2 : m ≤ 2000) : V.ownsRow base 5 1 (.slice (some ⟨b, 0, none⟩) m m) m (l.map bv) := by
  subst hm
  exact own_of_blk h hb (by unfold maxLen; omega)
def TagC : Prop := ∀ (w : World) (k n be x : List UInt8) (bo xo : Option Addr) (cb cx : Nat), k.length = 32 → n.length = 12 → Bts w bo cb be → Bts w xo cx x → be.length ≤ 2000 → x.length ≤ 2000 → CTab w →
    Calls Tryd.prog 38 #[.agg (k.map bv).toArray, .agg (n.map bv).toArray, .slice bo be.length cb, .slice xo x.length cx] w fun e w' => e = .returned (.agg ((tagA k n be x).map bv).toArray) ∧ w.grownBy w' none
theorem zero16s (w : World) : (zeroValue 93).run Tryd.prog w = .ok (.agg ((List.replicate 16 (0 : UInt8)).map bv).toArray) w := by kernel_rfl
theorem new_row16 (w2 : World) (Z : Array Value) (hZ : Z = ((List.replicate 16 (0 : UInt8)).map bv).toArray) (T : List UInt8) : ∃ W3, W3 = (w2.alloc (.cells Z 93)).setRow w2.heap.size (T.map bv).toArray ∧ Blk W3 w2.heap.size 93 (T.map bv) ∧ w2.grownBy W3 none := by
  refine ⟨_, rfl, ?_, gb_row (gb_alloc (gb_refl _ _) _) _ (Or.inl (Nat.le_refl _))⟩
  subst hZ
  exact (Blk.new w2 93 ((List.replicate 16 (0 : UInt8)).map bv)).row _

set_option maxRecDepth 100000 in
set_option maxHeartbeats 1000000 in
theorem seal_of (hTag : TagC) (w : World) (k n be t : List UInt8) (bo xo : Option Addr) (cb cx : Nat) (hk : k.length = 32) (hn : n.length = 12) (hb : Bts w bo cb be) (hx : Bts w xo cx t) (hbe : be.length ≤ 2000) (ht : t.length ≤ 2000) (hT : CTab w) :
    Calls Tryd.prog 23 #[.agg (k.map bv).toArray, .agg (n.map bv).toArray, .slice bo be.length cb, .slice xo t.length cx] w fun e w' => ∃ v, e = .returned v ∧ NewB w w' v (sealL k n be t) ∧ w.grownBy w' none := by
  have tr : ∀ {x y z : World}, x.grownBy y none → y.grownBy z none → x.grownBy z none := fun h k => gb_trans h k (fun _ e => by cases e)
  have hi32 : (Tryd.prog.info? 37).map (·.size) = some 32 := by kernel_rfl
  have hi12 : (Tryd.prog.info? 64).map (·.size) = some 12 := by kernel_rfl
  have hi16 : (Tryd.prog.info? 93).map (·.size) = some 16 := by kernel_rfl
  obtain ⟨Z, hZ⟩ : ∃ A : Array Value, A = ((List.replicate 16 (0 : UInt8)).map bv).toArray := ⟨_, rfl⟩
  have hz : ∀ w : World, (zeroValue 93).run Tryd.prog w = .ok (.agg Z) w := by rw [hZ]; exact zero16s
  obtain ⟨KA, hKA⟩ : ∃ A : Array Value, A = (k.map bv).toArray := ⟨_, rfl⟩
  obtain ⟨NA, hNA⟩ : ∃ A : Array Value, A = (n.map bv).toArray := ⟨_, rfl⟩
  have hsK : KA.size = 32 := by rw [hKA]; simp [hk]
  have hsN : NA.size = 12 := by rw [hNA]; simp [hn]
  obtain ⟨W1, hW1⟩ : ∃ W1, W1 = (w.alloc (.cells KA 37)).alloc (.cells NA 64) := ⟨_, rfl⟩
  have hs1 : W1.heap.size = w.heap.size + 2 := by rw [hW1, World.size_alloc, World.size_alloc]
  have hg1 : w.grownBy W1 none := by rw [hW1]; exact gb_alloc (gb_alloc (gb_refl _ _) _) _
  have hK1 : Blk W1 w.heap.size 37 (k.map bv) := by rw [hW1, hKA]; exact (Blk.new w 37 _).alloc _
  have hN1 : Blk W1 (w.heap.size + 1) 64 (n.map bv) := by
    have := Blk.new (w.alloc (.cells KA 37)) 64 (n.map bv)
    rw [World.size_alloc] at this
    rw [hW1, hNA]; exact this
  have kb : ∀ V, W1.grownBy V none → V.heap[w.heap.size]? = some (.cells KA 37 (0, 0)) := fun V gV => by rw [hKA]; exact hK1.kept gV (by simp)
  have nb : ∀ V, W1.grownBy V none → V.heap[w.heap.size + 1]? = some (.cells NA 64 (0, 0)) := fun V gV => by rw [hNA]; exact hN1.kept gV (by simp)
  obtain ⟨s, hs⟩ : ∃ s, s = streamL k n 1 t := ⟨_, rfl⟩
  have hsl : s.length = t.length := by rw [hs, streamL_length]
  obtain ⟨T, hTg⟩ : ∃ T, T = tagA k n be s := ⟨_, rfl⟩
  have hTl : T.length = 16 := by rw [hTg]; exact tagA_length _ _ _ _
  have hsT : ((T.map bv).toArray).size = 16 := by simp [hTl]
  have hseal : sealL k n be t = s ++ T := by rw [sealL, hTg, hs]
  have cSt : ∀ V, w.grownBy V none → Calls Tryd.prog 37 #[.agg KA, .agg NA, .int .u32 1, .slice xo t.length cx] V fun e w' => e = .returned (.slice (some ⟨V.heap.size + 2, 0, none⟩) s.length s.length) ∧ Blk w' (V.heap.size + 2) 5 (s.map bv) ∧ V.grownBy w' none := fun V gV => by
    have h := stream_any V k n 1 hk hn xo cx t (hx.kept gV (fun _ e => by cases e)) (by omega) (hT.kept0 gV)
    rw [show wz 1 = 1 from rfl, ← hs, ← hKA, ← hNA] at h
    rw [hsl]; exact h
  have cTg : ∀ V p, w.grownBy V none → Blk V p 5 (s.map bv) → Calls Tryd.prog 38 #[.agg KA, .agg NA, .slice bo be.length cb, .slice (some ⟨p, 0, none⟩) s.length s.length] V fun e w' => e = .returned (.agg (T.map bv).toArray) ∧ V.grownBy w' none := fun V p gV hB => by
    have h := hTag V k n be s bo (some ⟨p, 0, none⟩) cb s.length hk hn (hb.kept gV (fun _ e => by cases e)) (blk_bytes hB s.length (Nat.le_refl _) (by unfold maxLen; omega)) hbe (by omega) (hT.kept0 gV)
    rw [← hTg, ← hKA, ← hNA] at h
    exact h
  have slT : ∀ (p : Nat) (W : World), (Instr.sliceAt 93 (.pointer (some ⟨p, 0, none⟩)) none none none).run Tryd.prog W = .ok (.slice (some ⟨p, 0, none⟩) 16 16) W := fun p W => slice_whole5 93 5 16 Tryd.underlying93 size_byte p 0 (by omega) W
  obtain ⟨m, hm⟩ : ∃ m, m = s.length := ⟨_, rfl⟩
  have hm2 : m ≤ 2000 := by omega
  rw [← hKA, ← hNA, hseal]
  rw [← hm] at cSt cTg
  have HKB := hide kb
  have HNB := hide nb
  have HSK := hide hsK
  have HSN := hide hsN
  have HST := hide hsT
  have HTL := hide hTl
  have HW1 := hide hW1
  have HZ := hide hZ
  have HM := hide hm
  clear hKA hNA hsK hsN hW1 hK1 hN1 kb nb hs hsl hTg hTl hsT hseal hZ hm hb hx hT hTag hk hn hbe ht
  go_enter Tryd.func23, Tryd.ntmps23
  go_wp2_with (first
    | (rw [← unhide HW1]; clear HW1; have gg := gb_refl W1 none; refine wpList_load_row rfl 37 _ rfl w.heap.size rfl _ _ _ _ (unhide HKB _ gg) Tryd.underlying37 rfl ?_ ?_; (rw [unhide HSK]; exact hi32))
    | (refine wpList_load_row rfl 37 _ rfl w.heap.size rfl _ _ _ _ (unhide HKB _ gg) Tryd.underlying37 rfl ?_ ?_; (rw [unhide HSK]; exact hi32))
    | (refine wpList_load_row rfl 64 _ rfl (w.heap.size + 1) rfl _ _ _ _ (unhide HNB _ gg) Tryd.underlying64 rfl ?_ ?_; (rw [unhide HSN]; exact hi12))
    | (go_at_call 37; refine (cSt _ hg1).mono ?_; rintro e w2 ⟨rfl, hS2, g2⟩; clear cSt; rw [hs1] at hS2; clear gg; have gg := g2; have HS2 := hide hS2; clear hS2)
    | (go_at_call 38; refine (cTg _ _ (tr hg1 gg) (unhide HS2)).mono ?_; rintro e w3 ⟨rfl, g3⟩; clear cTg)
    | (refine wpList_store_row rfl 93 _ _ rfl w3.heap.size _ rfl rfl _ _ (heap_alloc_new w3 (.cells Z 93)) ?_ ?_ ?_ ?_; (rw [unhide HST]; exact hi16); (rw [unhide HST, unhide HZ]; rfl); (exact all_oneCell_toArray (bv_one _)); obtain ⟨W4, hW4, hT4, g4⟩ := new_row16 w3 Z (unhide HZ) T; rw [← hW4]; clear hW4; have hO4 := own_at (base := w.heap.size) ((unhide HS2).kept (tr g3 g4) (by simp)) (by omega) (unhide HM) hm2; have hB4 := blk_bytes hT4 16 (by rw [unhide HTL]; omega) (by decide); have HO4 := hide hO4; have HB4 := hide hB4; have GG4 := tr hg1 (tr gg (tr g3 g4)); clear hT4 hO4 hB4)
    | (refine wpList_append_btm rfl _ _ rfl w.heap.size _ m (s.map bv) rfl (unhide HO4) _ 16 T (unhide HB4) 16 (unhide HTL).symm rfl (by omega) GG4.size ?_; intro v5 w5 hO5 g5))
  have hO6 : w5.ownsRow w.heap.size 5 1 v5 (s ++ T).length ((s ++ T).map bv) := by
    rw [List.length_append, List.map_append, unhide HTL, ← unhide HM]; exact hO5
  have GG5 : w.grownBy w5 none := gb_trans GG4 g5 (fun x e => Or.inl (by
    have e2 : some (w.heap.size + 2 + 2) = some x := e
    injection e2 with e3
    omega))
  go_ret
  exact ⟨_, rfl, NewB.own hO6, GG5⟩
end Go.Proofs.YtjckdgapefaokaaDoor

/- What a box's law reckons of its small play: the first bytes of a source of no texts; that what one key sealed by them another one does not open. No condition but those that each lemma names. -/
namespace Go.Proofs.YtjckdgapefaokaaDoor

/-- The first bytes behind no texts. -/
def none12 : List UInt8 := [92, 93, 66, 220, 243, 159, 113, 192, 34, 108, 167, 32]

set_option maxRecDepth 100000 in
theorem none_sum : (sumAt [] 0).take 12 = none12 := by kernel_rfl

theorem none_told : told [] 0 12 = none12 := by
  have h := told_sum [] 0 12 (by omega)
  rw [← none_sum]
  simpa using h

/-- A key whose bytes are zeros but for its first. -/
def key1 (x : UInt8) : List UInt8 := x :: List.replicate 31 0
theorem key1_length (x : UInt8) : (key1 x).length = 32 := rfl

set_option maxRecDepth 100000 in
theorem other_key : openB (key1 2) none12 [] (sealL (key1 1) none12 [] [97, 98]) = false := by kernel_rfl

end Go.Proofs.YtjckdgapefaokaaDoor

/- The text 'coffret', and its sum, reckoned. No condition. -/
namespace Go.Proofs.YtjckdgapefaokaaDoor

def cofT : List UInt8 := [99, 111, 102, 102, 114, 101, 116]
def cofS : List UInt8 := [51, 168, 164, 81, 196, 25, 210, 44, 124, 160, 218, 117, 170, 186, 240, 49, 40, 230, 11, 15, 113, 229, 227, 56, 174, 126, 23, 26, 36, 240, 127, 34]
set_option maxRecDepth 100000 in
theorem cof_seed : shaL cofT = cofS := by kernel_rfl

theorem sum_cof (k : Nat) : sumAt cofT k = shaL (cofS ++ lb k 8) := by unfold sumAt; rw [cof_seed]

end Go.Proofs.YtjckdgapefaokaaDoor

/- The sums that come behind the text 'coffret', number 66 to 85, reckoned. No condition. -/
namespace Go.Proofs.YtjckdgapefaokaaDoor

def cof66 : List Nat := [139, 117, 35, 167, 73, 172, 204, 12, 83, 195, 31, 203, 189, 177, 248, 138, 210, 52, 164, 218, 118, 193, 92, 7, 80, 91, 192, 227, 134, 213, 240, 38]
set_option maxRecDepth 100000 in
theorem cof66_eq : shaL (cofS ++ lb 66 8) = cof66.map UInt8.ofNat := by kernel_rfl
def cof67 : List Nat := [247, 140, 44, 206, 211, 178, 73, 199, 206, 73, 85, 32, 133, 192, 164, 74, 239, 188, 210, 199, 194, 227, 246, 200, 129, 1, 78, 137, 23, 104, 234, 53]
set_option maxRecDepth 100000 in
theorem cof67_eq : shaL (cofS ++ lb 67 8) = cof67.map UInt8.ofNat := by kernel_rfl
def cof68 : List Nat := [2, 90, 251, 105, 113, 221, 153, 124, 51, 123, 40, 128, 160, 125, 45, 119, 167, 192, 158, 107, 102, 20, 196, 34, 17, 48, 121, 112, 46, 22, 10, 212]
set_option maxRecDepth 100000 in
theorem cof68_eq : shaL (cofS ++ lb 68 8) = cof68.map UInt8.ofNat := by kernel_rfl
def cof69 : List Nat := [217, 166, 122, 31, 50, 185, 123, 123, 83, 123, 21, 116, 181, 86, 48, 199, 118, 181, 165, 131, 61, 164, 159, 83, 55, 198, 1, 111, 240, 79, 28, 177]
set_option maxRecDepth 100000 in
theorem cof69_eq : shaL (cofS ++ lb 69 8) = cof69.map UInt8.ofNat := by kernel_rfl
def cof70 : List Nat := [248, 108, 158, 250, 1, 199, 225, 233, 51, 69, 69, 16, 163, 131, 56, 139, 193, 203, 131, 96, 117, 166, 191, 75, 109, 118, 43, 162, 91, 121, 118, 33]
set_option maxRecDepth 100000 in
theorem cof70_eq : shaL (cofS ++ lb 70 8) = cof70.map UInt8.ofNat := by kernel_rfl
def cof71 : List Nat := [250, 250, 218, 65, 11, 233, 65, 175, 175, 123, 154, 144, 165, 45, 162, 49, 183, 88, 42, 95, 195, 187, 98, 198, 227, 170, 86, 8, 90, 39, 0, 130]
set_option maxRecDepth 100000 in
theorem cof71_eq : shaL (cofS ++ lb 71 8) = cof71.map UInt8.ofNat := by kernel_rfl
def cof72 : List Nat := [19, 52, 209, 200, 25, 53, 154, 130, 203, 33, 50, 90, 94, 11, 36, 231, 179, 207, 72, 175, 223, 225, 208, 123, 38, 171, 58, 217, 232, 53, 9, 74]
set_option maxRecDepth 100000 in
theorem cof72_eq : shaL (cofS ++ lb 72 8) = cof72.map UInt8.ofNat := by kernel_rfl
def cof73 : List Nat := [187, 156, 240, 66, 145, 141, 78, 253, 178, 52, 72, 143, 168, 27, 188, 72, 80, 129, 42, 62, 229, 61, 126, 69, 64, 244, 203, 193, 111, 164, 156, 240]
set_option maxRecDepth 100000 in
theorem cof73_eq : shaL (cofS ++ lb 73 8) = cof73.map UInt8.ofNat := by kernel_rfl
def cof74 : List Nat := [58, 142, 149, 196, 163, 14, 20, 245, 162, 20, 49, 57, 150, 159, 58, 196, 27, 28, 115, 199, 67, 116, 94, 102, 7, 12, 130, 244, 112, 240, 48, 36]
set_option maxRecDepth 100000 in
theorem cof74_eq : shaL (cofS ++ lb 74 8) = cof74.map UInt8.ofNat := by kernel_rfl
def cof75 : List Nat := [102, 66, 250, 234, 176, 206, 242, 156, 106, 0, 232, 155, 143, 236, 196, 74, 90, 114, 132, 160, 1, 57, 98, 254, 152, 52, 172, 110, 227, 203, 204, 200]
set_option maxRecDepth 100000 in
theorem cof75_eq : shaL (cofS ++ lb 75 8) = cof75.map UInt8.ofNat := by kernel_rfl
def cof76 : List Nat := [50, 70, 13, 215, 232, 141, 47, 199, 173, 155, 133, 182, 189, 57, 25, 236, 173, 187, 178, 133, 55, 52, 67, 88, 153, 109, 17, 37, 91, 241, 154, 71]
set_option maxRecDepth 100000 in
theorem cof76_eq : shaL (cofS ++ lb 76 8) = cof76.map UInt8.ofNat := by kernel_rfl
def cof77 : List Nat := [55, 165, 143, 207, 248, 220, 225, 107, 201, 72, 81, 56, 247, 80, 219, 47, 230, 213, 122, 162, 82, 84, 138, 29, 159, 24, 162, 123, 152, 158, 51, 203]
set_option maxRecDepth 100000 in
theorem cof77_eq : shaL (cofS ++ lb 77 8) = cof77.map UInt8.ofNat := by kernel_rfl
def cof78 : List Nat := [199, 203, 88, 243, 126, 129, 99, 98, 39, 55, 234, 181, 226, 68, 25, 79, 253, 220, 222, 144, 227, 125, 137, 171, 240, 27, 34, 25, 113, 193, 162, 137]
set_option maxRecDepth 100000 in
theorem cof78_eq : shaL (cofS ++ lb 78 8) = cof78.map UInt8.ofNat := by kernel_rfl
def cof79 : List Nat := [121, 211, 28, 95, 134, 100, 153, 24, 33, 190, 204, 47, 210, 169, 185, 132, 221, 242, 41, 52, 184, 178, 98, 181, 67, 200, 13, 235, 251, 198, 144, 90]
set_option maxRecDepth 100000 in
theorem cof79_eq : shaL (cofS ++ lb 79 8) = cof79.map UInt8.ofNat := by kernel_rfl
def cof80 : List Nat := [16, 221, 36, 186, 6, 50, 1, 127, 154, 41, 129, 165, 92, 52, 202, 44, 161, 181, 184, 206, 34, 212, 178, 235, 140, 1, 101, 228, 219, 143, 2, 238]
set_option maxRecDepth 100000 in
theorem cof80_eq : shaL (cofS ++ lb 80 8) = cof80.map UInt8.ofNat := by kernel_rfl
def cof81 : List Nat := [56, 6, 7, 52, 87, 153, 109, 179, 191, 181, 19, 138, 117, 116, 82, 67, 154, 200, 189, 36, 29, 124, 216, 149, 22, 139, 24, 213, 40, 167, 131, 82]
set_option maxRecDepth 100000 in
theorem cof81_eq : shaL (cofS ++ lb 81 8) = cof81.map UInt8.ofNat := by kernel_rfl
def cof82 : List Nat := [56, 103, 14, 200, 228, 220, 207, 106, 25, 212, 55, 11, 190, 21, 114, 93, 238, 230, 28, 113, 3, 154, 27, 61, 194, 183, 176, 238, 25, 146, 223, 157]
set_option maxRecDepth 100000 in
theorem cof82_eq : shaL (cofS ++ lb 82 8) = cof82.map UInt8.ofNat := by kernel_rfl
def cof83 : List Nat := [255, 101, 107, 31, 81, 15, 138, 117, 228, 217, 23, 31, 27, 209, 129, 72, 148, 182, 252, 157, 200, 65, 93, 155, 111, 92, 66, 130, 42, 143, 123, 129]
set_option maxRecDepth 100000 in
theorem cof83_eq : shaL (cofS ++ lb 83 8) = cof83.map UInt8.ofNat := by kernel_rfl
def cof84 : List Nat := [94, 130, 55, 117, 248, 92, 140, 57, 215, 54, 15, 203, 151, 178, 199, 141, 135, 127, 182, 102, 86, 122, 244, 165, 141, 87, 42, 151, 78, 229, 165, 113]
set_option maxRecDepth 100000 in
theorem cof84_eq : shaL (cofS ++ lb 84 8) = cof84.map UInt8.ofNat := by kernel_rfl
def cof85 : List Nat := [39, 210, 54, 204, 237, 52, 181, 85, 33, 124, 44, 230, 165, 11, 141, 220, 222, 107, 101, 182, 176, 203, 21, 17, 63, 233, 39, 77, 173, 238, 201, 215]
set_option maxRecDepth 100000 in
theorem cof85_eq : shaL (cofS ++ lb 85 8) = cof85.map UInt8.ofNat := by kernel_rfl

end Go.Proofs.YtjckdgapefaokaaDoor
