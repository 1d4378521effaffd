/- The HMAC of the document's example, reckoned; and the law package's one: it answers true, and nothing that was in memory has changed. -/
import Derived.Test.YtikdpifacokfpaaDoorKMac
import Derived.Lib.SlBytesConst
import Derived.Laws.NewBlocks
namespace Go.Proofs.YtikdpifacokfpaaDoor
open Go.RowKit

def jefe : List UInt8 := [74, 101, 102, 101]
def ask1 : List UInt8 := [119, 104, 97, 116, 32, 100, 111, 32, 121, 97, 32, 119, 97, 110, 116, 32]
def ask2 : List UInt8 := [102, 111, 114, 32, 110, 111, 116, 104, 105, 110, 103, 63]

set_option maxRecDepth 100000 in
theorem mac_jefe : macL jefe [ask1, ask2].flatten = [91, 220, 193, 70, 191, 96, 117, 78, 106, 4, 36, 38, 8, 149, 117, 199, 90, 0, 63, 8, 157, 39, 57, 131, 157, 236, 88, 185, 100, 236, 56, 67] := by kernel_rfl

theorem bts_const {w W : World} {l : List UInt8} {t : TypeId} {fr : Nat × Nat} (h : W.heap[w.heap.size]? = some (.cells (l.map bv).toArray t fr)) (hm : l.length ≤ maxLen) : Bts W (some ⟨w.heap.size, 0, none⟩) l.length l := by
  refine ⟨(fun e => by cases e), Nat.le_refl _, hm, (fun ad e _ => by cases e; rfl), (fun ad e i hi => ?_)⟩
  cases e
  simp [World.cell?, h, hi, bv]

theorem lst_two {W1 : World} {ao bo : Option Addr} {ca cb : Nat} {a b : List UInt8} (ha : Bts W1 ao ca a) (hb : Bts W1 bo cb b) (N : Nat) {t : TypeId} (hB : Blk W1 N t [.slice ao a.length ca, .slice bo b.length cb]) :
    Lst W1 (some ⟨N, 0, none⟩) 2 [a, b] := by
  refine ⟨(fun e => by cases e), by simp, by unfold maxLen; omega, (fun ad e _ => by cases e; rfl), (fun ad e i hi => ?_)⟩
  cases e
  match i, hi with
  | 0, _ => exact ⟨ao, ca, hB.cell 0, ha⟩
  | 1, _ => exact ⟨bo, cb, hB.cell 1, hb⟩

set_option maxRecDepth 100000 in
set_option maxHeartbeats 1000000 in
theorem kone_any (w : World) (hT : Tabs w) :
    Calls Tryd.prog 19 #[] w fun e w' => e = .returned (.bool true) ∧ w.grownBy w' none := by
  have hi32 : (Tryd.prog.info? 22).map (·.size) = some 32 := by kernel_rfl
  obtain ⟨Y, hY⟩ : ∃ Y : Array Value, Y = ((List.replicate 32 (0 : UInt8)).map bv).toArray := ⟨_, rfl⟩
  have hyv := zero32
  rw [← hY] at hyv
  have kc : ∀ (V : World) (H : Nat) (C : Array Value) (n c : Nat), V.heap.size = H → (convert 30 30 (.slice (some ⟨H, 0, none⟩) n c)).run Tryd.prog (V.alloc (.cells C 5)) = .ok (.slice (some ⟨H, 0, none⟩) n c) (V.alloc (.cells C 5 (C.size, C.size + 1))) := fun V H C n c h => by
    subst h
    exact Lib.run_convert_bytes_const (P := Tryd.prog) V 30 5 C n c Tryd.underlying30 Tryd.underlying5
  obtain ⟨U1, hU1⟩ : ∃ U, U = w.alloc (.cells (jefe.map bv).toArray 5 (4, 5)) := ⟨_, rfl⟩
  obtain ⟨U2, hU2⟩ : ∃ U, U = U1.alloc (.cells (ask1.map bv).toArray 5 (16, 17)) := ⟨_, rfl⟩
  obtain ⟨U3, hU3⟩ : ∃ U, U = U2.alloc (.cells (ask2.map bv).toArray 5 (12, 13)) := ⟨_, rfl⟩
  obtain ⟨U4, hU4⟩ : ∃ U, U = U3.alloc (.cells #[.slice (some ⟨U1.heap.size, 0, none⟩) 16 16, .slice (some ⟨U2.heap.size, 0, none⟩) 12 12] 30) := ⟨_, rfl⟩
  have g1 : w.grownBy U1 none := by rw [hU1]; exact gb_alloc (gb_refl _ _) _
  have g2 : U1.grownBy U2 none := by rw [hU2]; exact gb_alloc (gb_refl _ _) _
  have g3 : U2.grownBy U3 none := by rw [hU3]; exact gb_alloc (gb_refl _ _) _
  have g4 : U3.grownBy U4 none := by rw [hU4]; exact gb_alloc (gb_refl _ _) _
  have tr : ∀ {a b c : World}, a.grownBy b none → b.grownBy c none → a.grownBy c none := fun h k => gb_trans h k (fun _ e => by cases e)
  have hk : ∀ {a b : World} {ao : Option Addr} {c : Nat} {l : List UInt8}, Bts a ao c l → a.grownBy b none → Bts b ao c l := fun h g => h.kept g (fun _ e => by cases e)
  have b1 : Bts U1 (some ⟨w.heap.size, 0, none⟩) 4 jefe := bts_const (w := w) (W := U1) (l := jefe) (t := 5) (fr := (4, 5)) (by rw [hU1]; exact heap_alloc_new w _) (by unfold maxLen; decide)
  have b2 : Bts U2 (some ⟨U1.heap.size, 0, none⟩) 16 ask1 := bts_const (w := U1) (W := U2) (l := ask1) (t := 5) (fr := (16, 17)) (by rw [hU2]; exact heap_alloc_new U1 _) (by unfold maxLen; decide)
  have b3 : Bts U3 (some ⟨U2.heap.size, 0, none⟩) 12 ask2 := bts_const (w := U2) (W := U3) (l := ask2) (t := 5) (fr := (12, 13)) (by rw [hU3]; exact heap_alloc_new U2 _) (by unfold maxLen; decide)
  have hB4 : Blk U4 U3.heap.size 30 [.slice (some ⟨U1.heap.size, 0, none⟩) ask1.length 16, .slice (some ⟨U2.heap.size, 0, none⟩) ask2.length 12] := by rw [hU4]; exact Blk.new U3 _ _
  have h1 := mac_any U4 _ 4 jefe (hk b1 (tr g2 (tr g3 g4))) _ 2 [ask1, ask2] (lst_two (hk b2 (tr g3 g4)) (hk b3 g4) _ hB4) (hT.kept0 (tr g1 (tr g2 (tr g3 g4)))) (by decide) (by decide)
  have G4 : w.grownBy U4 none := tr g1 (tr g2 (tr g3 g4))
  rw [mac_jefe, show jefe.length = 4 from rfl, show [ask1, ask2].length = 2 from rfl, hU4, hU3, hU2, hU1] at h1
  simp only [World.size_alloc, Nat.add_assoc, Nat.reduceAdd] at h1
  obtain ⟨sl, hsl⟩ : ∃ sl : List UInt8, sl = [91, 220, 193, 70, 191, 96, 117, 78, 106, 4, 36, 38, 8, 149, 117, 199, 90, 0, 63, 8, 157, 39, 57, 131, 157, 236, 88, 185, 100, 236, 56, 67] := ⟨_, rfl⟩
  rw [← hsl] at h1
  rw [hU4, hU3, hU2, hU1] at G4
  simp only [World.size_alloc, Nat.add_assoc, Nat.reduceAdd] at G4
  have hl32 : sl.length = 32 := by rw [hsl]; rfl
  have hsz : ((sl.map bv).toArray).size = 32 := by simp [hl32]
  have HSZ := hide hsz
  have HSL := hide hsl
  have HY := hide hY
  clear hsz hl32 hsl hT hU1 hU2 hU3 hU4 g1 g2 g3 g4 tr hk b1 b2 b3 hB4 hY
  go_enter Tryd.func19, Tryd.ntmps19
  go_wp2_with fail
  refine h1.mono ?_
  rintro e w2 ⟨rfl, g2⟩
  clear kc h1
  have G2 := gb_trans G4 g2 (fun _ e => by cases e)
  have hN2 : Blk (w2.alloc (.cells Y 22)) w2.heap.size 22 ((List.replicate 32 (0 : UInt8)).map bv) := by
    rw [unhide HY]; exact Blk.new w2 22 _
  obtain ⟨W3, hW3⟩ : ∃ W3, W3 = (w2.alloc (.cells Y 22)).setRow w2.heap.size (sl.map bv).toArray := ⟨_, rfl⟩
  have hB3 : Blk W3 w2.heap.size 22 (sl.map bv) := by rw [hW3]; exact hN2.row _
  have g3 : w.grownBy W3 none := by rw [hW3]; exact gb_row (gb_alloc G2 _) _ (Or.inl G2.size)
  rw [unhide HSL] at hB3
  have c0 : W3.cell? ⟨w2.heap.size, 0, none⟩ = some (.int .u8 91) := hB3.cell 0
  have c1 : W3.cell? ⟨w2.heap.size, 1, none⟩ = some (.int .u8 220) := hB3.cell 1
  have c31 : W3.cell? ⟨w2.heap.size, 31, none⟩ = some (.int .u8 67) := hB3.cell 31
  have HN2 := hide hN2
  have HW3 := hide hW3
  clear hN2 hW3 hB3 G4 g2 G2
  go_wp2_with (first | (refine wpList_store_row rfl 22 _ _ rfl w2.heap.size _ rfl rfl _ _ (unhide HN2) ?_ ?_ ?_ ?_; (rw [unhide HSZ]; exact hi32); (rw [unhide HSZ]; rfl); (exact all_oneCell_toArray (bv_one _)); refine (show wpList _ _ _ _ _ W3 → _ from fun q => unhide HW3 ▸ q) ?_))
  go_ret
  exact ⟨rfl, g3⟩

end Go.Proofs.YtikdpifacokfpaaDoor
