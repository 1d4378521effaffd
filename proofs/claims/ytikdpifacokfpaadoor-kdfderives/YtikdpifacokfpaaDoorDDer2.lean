/- What kdf's Derive answers. Of a word of at most 1000 bytes and at most 1000 texts of at most 100000 bytes together; where the tables hold what they are laid with. -/
import Derived.Test.YtikdpifacokfpaaDoorDDer
import Derived.Test.YtikdpifacokfpaaDoorKLoop
namespace Go.Proofs.YtikdpifacokfpaaDoor
open Go.RowKit

set_option maxRecDepth 100000 in
set_option maxHeartbeats 4000000 in
theorem derive_any (w : World) (K : List UInt8) (hK : K.length = 32) (word : List UInt8) (hwl : word.length ≤ 1000) (ao : Option Addr) (c : Nat) (L : List (List UInt8)) (hL : Lst w ao c L) (hLl : L.flatten.length ≤ 100000) (hLn : L.length ≤ 1000) (hT : Tabs w) :
    Calls Tryd.prog 20 #[.agg (K.map bv).toArray, .string (str word), .slice ao L.length c] w fun e w' => e = .returned (.agg ((expL K (infoL word L) 32).map bv).toArray) ∧ w.grownBy w' none := by
  have hi32 : (Tryd.prog.info? 23).map (·.size) = some 32 := by kernel_rfl
  have tr : ∀ {x y z : World}, x.grownBy y none → y.grownBy z none → x.grownBy z none := fun h k => gb_trans h k (fun _ e => by cases e)
  obtain ⟨KA, hKA⟩ : ∃ A : Array Value, A = (K.map bv).toArray := ⟨_, rfl⟩
  have hKZ : KA.size = 32 := by rw [hKA]; simp [hK]
  obtain ⟨Z, hZ⟩ : ∃ A : Array Value, A = ((List.replicate 32 (0 : UInt8)).map bv).toArray := ⟨_, rfl⟩
  have hz := zero32x
  rw [← hZ] at hz
  rw [← hKA]
  obtain ⟨cap, Wc, hcv, hbw, gc⟩ := str_bytes ((w.alloc (.cells KA 23)).alloc (.cells Z 23)) word (by unfold maxLen; omega)
  have g0 : w.grownBy ((w.alloc (.cells KA 23)).alloc (.cells Z 23)) none := gb_alloc (gb_alloc (gb_refl _ _) _) _
  have hK0 : Blk ((w.alloc (.cells KA 23)).alloc (.cells Z 23)) w.heap.size 23 (K.map bv) := by rw [hKA]; exact (Blk.new w 23 _).alloc _
  have hR0 : Blk ((w.alloc (.cells KA 23)).alloc (.cells Z 23)) (w.heap.size + 1) 23 ((List.replicate 32 (0 : UInt8)).map bv) := by
    have := Blk.new (w.alloc (.cells KA 23)) 23 ((List.replicate 32 (0 : UInt8)).map bv)
    rw [World.size_alloc] at this
    rw [hZ]; exact this
  have hKc := hK0.kept gc (by simp)
  have hRc := hR0.kept gc (by simp)
  have hgc := tr g0 gc
  have hsc := gc.size
  simp only [World.size_alloc] at hcv hbw hsc
  have hsz0 := sizedo_any Wc _ cap word hbw (by omega)
  obtain ⟨fa, fc, hcell, hbts⟩ := lst_fun hL
  have hshape := hL.shape
  have hzip := hL.zip
  obtain ⟨q, hq⟩ : ∃ q, q = L.length := ⟨_, rfl⟩
  obtain ⟨A, hA⟩ : ∃ A : Nat → List UInt8, ∀ k, A k = infoL word (L.take k) := ⟨_, fun _ => rfl⟩
  have hAl : ∀ k, (A k).length < 110000 := fun k => by rw [hA]; have := infoL_le word L k; omega
  have hA0 : layS word = A 0 := by rw [hA]; simp [infoL]
  rw [hA0] at hsz0
  rw [← hq]
  have HKA := hide hKA
  have HKZ := hide hKZ
  have HZ := hide hZ
  have HKC := hide hKc
  have HRC := hide hRc
  have HGC := hide hgc
  have HSC := hide hsc
  have HK := hide hK
  have HT := hide hT
  have HQ := hide hq
  have HA := hide hA
  have HAL := hide hAl
  have HCELL := hide hcell
  have HBTS := hide hbts
  have HSH := hide hshape
  have HZIP := hide hzip
  have HLL := hide hLl
  clear hKA hKZ hZ hKc hRc hgc hsc hK hT hq hA hAl hcell hbts hshape hzip hL g0 gc hK0 hR0 hbw hA0 hLl
  go_enter Tryd.func20, Tryd.ntmps20
  go_wp2_with fail
  refine hsz0.mono ?_
  rintro e w2 ⟨v2, rfl, o2, g2⟩
  clear hsz0 hcv
  have hK2 := (unhide HKC).kept g2 (by simp)
  have hR2 := (unhide HRC).kept g2 (by simp)
  have hg2 := tr (unhide HGC) g2
  have hs2 := g2.size
  go_wp2
  go_loopw [7, 18] (fun iv i wr => ∃ k : Nat, k ≤ q ∧ i = .int .i64 k ∧ wr.ownsRow Wc.heap.size 5 1 iv (A k).length ((A k).map bv) ∧ Blk wr w.heap.size 23 (K.map bv) ∧ Blk wr (w.heap.size + 1) 23 ((List.replicate 32 (0 : UInt8)).map bv) ∧ w.grownBy wr none ∧ Wc.heap.size ≤ wr.heap.size) (fun _ i _ => q - (intOf i).toNat)
  case atStart => exact ⟨0, Nat.zero_le _, rfl, o2, hK2, hR2, hg2, hs2⟩
  case round =>
    clear o2 hK2 hR2 hg2 hs2 g2
    obtain ⟨k, hk, rfl, o, hKb, hR, hg, hsw⟩ := hrel
    by_cases hlt : k < q
    · have hkL : k < L.length := by rw [← unhide HQ]; exact hlt
      have hkqi : (k : Int) < (q : Int) := by omega
      have hq0 : (0 : Int) ≤ (k : Int) := by omega
      obtain ⟨ad, rfl⟩ : ∃ ad, ao = some ad := by
        cases ao with
        | none => have := (unhide HZIP) rfl; omega
        | some ad => exact ⟨ad, rfl⟩
      have hs := (unhide HSH) ad rfl (by omega)
      obtain ⟨b, of, s⟩ := ad
      simp only at hs
      subst hs
      have hc := (unhide HCELL) _ rfl k hkL
      have hbk := (unhide HBTS) k hkL
      simp only at hc
      have hxe := elem_le L k hkL
      obtain ⟨x, hx⟩ : ∃ x, x = L[k] := ⟨_, rfl⟩
      rw [← hx] at hc hbk hxe
      have hLL := unhide HLL
      have hcr := hg.cell hc (by simp)
      have hct := sizedo_any wr (fa k) (fc k) x (hbk.kept hg (fun _ e => by cases e)) (by omega)
      have hA1 : A (k + 1) = A k ++ layS x := by rw [unhide HA, unhide HA, infoL_snoc word L k hkL, hx]
      have hAk := unhide HAL k
      have hxl := layS_length x
      have HA1 := hide hA1
      have HHX := hide hx
      have HXL := hide hxl
      clear hA1 hx hc hbk hxl
      go_wp2_with fail
      refine hct.mono ?_
      rintro e w3 ⟨v3, rfl, o3, g3⟩
      clear hct
      obtain ⟨so, sc, rfl, hb3, _⟩ := NewB.own o3
      have o13 := o.kept g3 (Classical.em _)
      have hK3 := hKb.kept g3 (by simp)
      have hR3 := hR.kept g3 (by simp)
      have hg3 := tr hg g3
      have hs3 := g3.size
      have hw3 : Wc.heap.size ≤ w3.heap.size := by omega
      have HO3 := hide o3
      clear o3 o hKb hR hcr
      have HO := hide (o13.lt)
      go_wp2_with (at_builtin; refine wpList_append_bts rfl _ _ rfl Wc.heap.size _ _ _ rfl o13 so sc (layS x) hb3 rfl ?n1 ?s1 ?_)
      case n1 => have := unhide HXL; omega
      case s1 => exact hw3
      intro v5 w5 o5 g5
      have hne : ∀ y, u7.ownBlock = some y → w.heap.size + 2 ≤ y := fun y e => by
        have h1 := (unhide HO y e).1
        have h2 := unhide HSC
        omega
      have hK5 := hK3.kept g5 (fun e => by have := hne _ e.symm; omega)
      have hR5 := hR3.kept g5 (fun e => by have := hne _ e.symm; omega)
      have hg5 : w.grownBy w5 none := gb_trans hg3 g5 (fun y e => Or.inl (by have := hne y e; omega))
      have hs5 := g5.size
      clear o13 hb3 hK3 hR3 hne g5
      go_wp2
      go_roundw
      case rel =>
        refine ⟨k + 1, by omega, by go_num, ?_, hK5, hR5, hg5, by omega⟩
        rw [unhide HA1, List.length_append, List.map_append]; exact o5
      case measure => simp [intOf]; omega
    · obtain rfl : k = q := by omega
      have hkqi : ¬ (k : Int) < (k : Int) := by omega
      obtain ⟨I, hI⟩ : ∃ I, I = A k := ⟨_, rfl⟩
      have hIl := unhide HAL k
      rw [← hI] at o hIl
      have hIe : I = infoL word L := by rw [hI, unhide HA, unhide HQ, List.take_of_length_le (Nat.le_refl _)]
      obtain ⟨io, ic, rfl, hbI, _⟩ := NewB.own o
      have gd : wr.grownBy (wr.alloc (.cells Z 23)) none := gb_alloc (gb_refl _ _) _
      have hD1 : Blk (wr.alloc (.cells Z 23)) wr.heap.size 23 ((List.replicate 32 (0 : UInt8)).map bv) := by rw [unhide HZ]; exact Blk.new wr 23 _
      have hK1 := hKb.kept gd (by simp)
      have hR1 := hR.kept gd (by simp)
      have hex := expand_any (wr.alloc (.cells Z 23)) K (unhide HK) io ic I (hbI.kept gd (fun _ e => by cases e)) (by omega) 32 (by omega) ((unhide HT).kept0 (tr hg gd))
      rw [← unhide HKA] at hex
      obtain ⟨y, hy⟩ : ∃ y, y = expL K I 32 := ⟨_, rfl⟩
      have hy32 : y.length = 32 := by rw [hy]; exact expL_length _ _ _ (by omega)
      rw [← hy, World.size_alloc] at hex
      have hKh : (wr.alloc (.cells Z 23)).heap[w.heap.size]? = some (.cells KA 23 (0, 0)) := by rw [unhide HKA]; exact hK1
      have HKH := hide hKh
      have HD1 := hide hD1
      have HR1 := hide hR1
      have HY := hide hy
      have HY32 := hide hy32
      have HIE := hide hIe
      have hgd := tr hg gd
      have hwlt := hR.lt
      clear hKh hD1 hK1 hR1 hy hy32 hIe hI o hbI hKb hR hg
      go_wp2_with (refine wpList_load_row rfl 23 _ rfl w.heap.size rfl _ _ _ _ (unhide HKH) Tryd.underlying23 rfl ?_ ?_; (rw [unhide HKZ]; exact hi32))
      refine hex.mono ?_
      rintro e w5 ⟨rfl, hby, g5⟩
      clear hex
      have hD5 := (unhide HD1).kept g5 (by simp)
      have hR5 := (unhide HR1).kept g5 (by simp)
      have hg5 := tr hgd g5
      have hcp := copy_bts w5 wr.heap.size 0 32 32 _ 32 y hby (hD5.there 0 (min y.length 32) (by simp; omega))
      rw [unhide HY32, show min 32 32 = 32 from rfl, List.take_of_length_le (by rw [unhide HY32]; exact Nat.le_refl _)] at hcp
      obtain ⟨W6, hW6⟩ : ∃ W6, W6 = w5.setCells wr.heap.size 0 (y.map bv) := ⟨_, rfl⟩
      have hD6 : Blk W6 wr.heap.size 23 (y.map bv) := by
        have := hD5.filled y (by rw [unhide HY32]; exact Nat.le_refl _)
        rw [unhide HY32, Nat.sub_self, List.replicate_zero, List.append_nil] at this
        rw [hW6]; exact this
      have hR6 : Blk W6 (w.heap.size + 1) 23 ((List.replicate 32 (0 : UInt8)).map bv) := by
        rw [hW6]; exact Blk.setCells_other (by omega) _ _ hR5
      have hg6 : w.grownBy W6 none := by rw [hW6]; exact gb_setCells (Or.inl (by omega)) _ _ hg5
      rw [← hW6] at hcp
      have hsl := slice_arr_all 23 5 32 Tryd.underlying23 size_byte wr.heap.size 0 (by omega)
      have hsz : ((y.map bv).toArray).size = 32 := by simp [unhide HY32]
      have HSZ := hide hsz
      have HD6 := hide hD6
      have HR6 := hide hR6
      clear hD5 hR5 hW6 hD6 hR6 hby hsz
      go_wp2_with (first
        | (refine wpList_load_row rfl 23 _ rfl wr.heap.size rfl _ _ _ _ (unhide HD6) Tryd.underlying23 rfl ?_ ?_; (rw [unhide HSZ]; exact hi32))
        | (refine wpList_store_row rfl 23 _ _ rfl (w.heap.size + 1) _ rfl rfl _ _ (unhide HR6) ?_ ?_ ?_ ?_; (rw [unhide HSZ]; exact hi32); (rw [unhide HSZ]; rfl); (exact all_oneCell_toArray (bv_one _))))
      have hS := (unhide HR6).row (y.map bv)
      have hG : w.grownBy (W6.setRow (w.heap.size + 1) (y.map bv).toArray) none := gb_row hg6 _ (Or.inl (by omega))
      refine bodyPost_ret (v := .agg (y.map bv).toArray) (results_cell_row (g := w.heap.size + 1) rfl _ _ _ _ _ _ ?_ hS Tryd.underlying23 rfl ?_) rfl ⟨?_, hG⟩
      · rfl
      · rw [unhide HSZ]; exact hi32
      · rw [unhide HY, unhide HIE]

end Go.Proofs.YtikdpifacokfpaaDoor
