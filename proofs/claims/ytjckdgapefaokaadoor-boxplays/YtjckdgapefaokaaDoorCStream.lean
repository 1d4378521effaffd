/- What chacha's Stream answers: the text laid over the key's bytes, in new memory. Where the table holds what the program's text lays in it, of a key of 32 bytes, a nonce of 12, and a text of at most 2 to the 47 bytes. -/
import Derived.Test.YtjckdgapefaokaaDoorCKn
import Derived.Test.YtjckdgapefaokaaDoorMMake
namespace Go.Proofs.YtjckdgapefaokaaDoor
open Go.RowKit

theorem b8_xor (x y : UInt8) : bits .xor .u8 ((x.toNat : Nat) : Int) ((y.toNat : Nat) : Int) = (((x ^^^ y).toNat : Nat) : Int) := by
  rw [u8_xor_nat _ _ x.toNat_lt y.toNat_lt, UInt8.toNat_xor]

theorem wz_count (d : Nat) : IntKind.u32.wrap (d : Int) = wz (BitVec.ofNat 32 d) := by
  rw [IntKind.wrap_u32]
  unfold wz
  rw [BitVec.toNat_ofNat]
  omega

theorem Blk.filled1 {w : World} {b : Nat} {t : TypeId} {xs : List UInt8} {r : Nat} (hr : r < xs.length) (h : Blk w b t ((xs.take r ++ List.replicate (xs.length - r) 0).map bv)) (x : UInt8) (hx : xs.getD r 0 = x) : Blk (w.setCell ⟨b, r, none⟩ (bv x)) b t ((xs.take (r + 1) ++ List.replicate (xs.length - (r + 1)) 0).map bv) := by
  have := h.set r (bv (xs.getD r 0))
  rw [fill_bv xs xs.length r hr hr, hx] at this
  exact this

theorem streamL_get (k n : List UInt8) (c : W) (l : List UInt8) (r : Nat) (hr : r < l.length) : (streamL k n c l).getD r 0 = l[r] ^^^ keyAt k n c r := by
  have h : r < (streamL k n c l).length := by rw [streamL_length]; exact hr
  rw [List.getD, List.getElem?_eq_getElem h, Option.getD_some]
  exact layOver_get _ _ _ hr

theorem blk_bts {w : World} {b : Nat} {t : TypeId} {l : List UInt8} (h : Blk w b t (l.map bv)) (c : Nat) (hc : l.length ≤ c) (hm : c ≤ maxLen) : Bts w (some ⟨b, 0, none⟩) c l := by
  refine ⟨(fun e => by cases e), hc, hm, (fun ad e _ => by cases e; rfl), (fun ad e i hi => ?_)⟩
  cases e
  rw [show (⟨b, 0, none⟩ : Addr).off + i = i from Nat.zero_add i, h.cell]
  simp [hi, bv]

set_option maxRecDepth 100000 in
set_option maxHeartbeats 4000000 in
theorem stream_any (w : World) (k n : List UInt8) (c : W) (hk : k.length = 32) (hn : n.length = 12) (ao : Option Addr) (cap : Nat) (l : List UInt8) (hb : Bts w ao cap l) (hlen : l.length ≤ 140737488355328) (hT : CTab w) :
    Calls Tryd.prog 37 #[.agg (k.map bv).toArray, .agg (n.map bv).toArray, .int .u32 (wz c), .slice ao l.length cap] w fun e w' => e = .returned (.slice (some ⟨w.heap.size + 2, 0, none⟩) l.length l.length) ∧ Blk w' (w.heap.size + 2) 5 ((streamL k n c l).map bv) ∧ w.grownBy w' none := by
  have hi64 : (Tryd.prog.info? 97).map (·.size) = some 64 := by kernel_rfl
  have hi32 : (Tryd.prog.info? 37).map (·.size) = some 32 := by kernel_rfl
  have hi12 : (Tryd.prog.info? 64).map (·.size) = some 12 := by kernel_rfl
  obtain ⟨KA, hKA⟩ : ∃ A : Array Value, A = (k.map bv).toArray := ⟨_, rfl⟩
  obtain ⟨NA, hNA⟩ : ∃ A : Array Value, A = (n.map bv).toArray := ⟨_, rfl⟩
  have hKZ : KA.size = 32 := by rw [hKA]; simp [hk]
  have hNZ : NA.size = 12 := by rw [hNA]; simp [hn]
  obtain ⟨Z, hZ⟩ : ∃ A : Array Value, A = ((List.replicate 64 (0 : UInt8)).map bv).toArray := ⟨_, rfl⟩
  have hz := zero64b
  rw [← hZ] at hz
  obtain ⟨L, hL⟩ : ∃ A : Array Value, A = ((List.replicate l.length (0 : UInt8)).map bv).toArray := ⟨_, rfl⟩
  have hmk := fun W => make_bytes W l.length hlen
  rw [← hL] at hmk
  obtain ⟨W1, hW1⟩ : ∃ W1, W1 = (((w.alloc (.cells KA 37)).alloc (.cells NA 64)).alloc (.cells L 5)).alloc (.cells Z 97) := ⟨_, rfl⟩
  have hg1 : w.grownBy W1 none := by rw [hW1]; exact gb_alloc (gb_alloc (gb_alloc (gb_alloc (gb_refl _ _) _) _) _) _
  have hK1 : Blk W1 w.heap.size 37 (k.map bv) := by
    rw [hW1, hKA]; exact (((Blk.new w 37 (k.map bv)).alloc _).alloc _).alloc _
  have hN1 : Blk W1 (w.heap.size + 1) 64 (n.map bv) := by
    have := Blk.new (w.alloc (.cells KA 37)) 64 (n.map bv)
    rw [World.size_alloc] at this
    rw [hW1, hNA]; exact (this.alloc _).alloc _
  have hL1 : Blk W1 (w.heap.size + 2) 5 (((streamL k n c l).take 0 ++ List.replicate ((streamL k n c l).length - 0) 0).map bv) := by
    have := Blk.new ((w.alloc (.cells KA 37)).alloc (.cells NA 64)) 5 ((List.replicate l.length (0 : UInt8)).map bv)
    rw [World.size_alloc, World.size_alloc] at this
    rw [hW1, hL, List.take_zero, List.nil_append, Nat.sub_zero, streamL_length]; exact this.alloc _
  have hB1 : Blk W1 (w.heap.size + 3) 97 ((List.replicate 64 (0 : UInt8)).map bv) := by
    have := Blk.new (((w.alloc (.cells KA 37)).alloc (.cells NA 64)).alloc (.cells L 5)) 97 ((List.replicate 64 (0 : UInt8)).map bv)
    rw [World.size_alloc, World.size_alloc, World.size_alloc] at this
    rw [hW1, hZ]; exact this
  obtain ⟨xs, hxs⟩ : ∃ xs, xs = streamL k n c l := ⟨_, rfl⟩
  have hxl : xs.length = l.length := by rw [hxs, streamL_length]
  rw [← hxs] at hL1
  obtain ⟨N, hN⟩ : ∃ N, N = l.length := ⟨_, rfl⟩
  rw [← hKA, ← hNA, ← hxs, ← hN]
  rw [← hN] at hmk
  rw [hxl, ← hN] at hL1
  have HKA := hide hKA
  have HNA := hide hNA
  have HKZ := hide hKZ
  have HNZ := hide hNZ
  have HZ := hide hZ
  have HL := hide hL
  have HW1 := hide hW1
  have HK := hide hk
  have HN := hide hn
  have HNN := hide hN
  have HXS := hide hxs
  have HXL := hide hxl
  have HK1 := hide hK1
  have HN1 := hide hN1
  have HL1 := hide hL1
  have HB1 := hide hB1
  have HT := hide hT
  have HBB := hide hb
  clear hKA hNA hKZ hNZ hZ hL hW1 hk hn hN hxs hxl hK1 hN1 hL1 hB1 hT hb
  go_enter Tryd.func37, Tryd.ntmps37
  go_wp2
  rw [← unhide HW1]
  go_loopw [18] (fun i wr => ∃ (r : Nat) (bl : List UInt8), r ≤ N ∧ i = .int .i64 r ∧ bl.length = 64 ∧ (r % 64 ≠ 0 → bl = blockL k n (c + BitVec.ofNat 32 (r / 64))) ∧ Blk wr (w.heap.size + 3) 97 (bl.map bv) ∧ Blk wr (w.heap.size + 2) 5 ((xs.take r ++ List.replicate (N - r) 0).map bv) ∧ Blk wr w.heap.size 37 (k.map bv) ∧ Blk wr (w.heap.size + 1) 64 (n.map bv) ∧ w.grownBy wr none) (fun i _ => N - (intOf i).toNat)
  case atStart => exact ⟨0, _, Nat.zero_le _, rfl, by simp, fun h => absurd rfl h, unhide HB1, unhide HL1, unhide HK1, unhide HN1, hg1⟩
  case round =>
    clear HB1 HL1 HK1 HN1 HW1 hg1
    obtain ⟨r, bl, hr, rfl, hbl, hbe, hB, hLb, hKb, hNb, hg⟩ := hrel
    by_cases hlt : r < N
    · have hrl : r < l.length := by rw [← unhide HNN]; exact hlt
      obtain ⟨ad, rfl⟩ : ∃ ad, ao = some ad := by
        cases ao with
        | none => have := (unhide HBB).zip rfl; omega
        | some ad => exact ⟨ad, rfl⟩
      have hbw := (unhide HBB).kept hg (fun _ e => by cases e)
      have hcb := hbw.cell ad rfl r hrl
      have hsb := hbw.shape ad rfl (by omega)
      obtain ⟨ab, aoff, asp⟩ := ad
      simp only at hsb hcb
      subst hsb
      obtain ⟨x, hx⟩ : ∃ x, x = l[r] := ⟨_, rfl⟩
      rw [← hx] at hcb
      obtain ⟨m, hm⟩ : ∃ m : Nat, m = r % 64 := ⟨_, rfl⟩
      obtain ⟨d, hd⟩ : ∃ d : Nat, d = r / 64 := ⟨_, rfl⟩
      have hm1 : (r : Int) % 64 = (m : Int) := by omega
      have hm2 : Int.tmod (r : Int) 64 = (m : Int) := by rw [Int.tmod_eq_emod_of_nonneg (by omega)]; omega
      have hd1 : (r : Int) / 64 = (d : Int) := by omega
      have hd2 : Int.tdiv (r : Int) 64 = (d : Int) := by rw [Int.tdiv_eq_ediv_of_nonneg (by omega)]; omega
      have hq0 : (0 : Int) ≤ (r : Int) := by omega
      have hq1 : (r : Int) < (N : Int) := by omega
      have m0 : (0 : Int) ≤ (m : Int) := by omega
      have m1 : (m : Int) < 64 := by omega
      have hkey : keyAt k n c r = (blockL k n (c + BitVec.ofNat 32 d)).getD m 0 := by rw [hm, hd]; rfl
      have hxr : xs.getD r 0 = x ^^^ keyAt k n c r := by rw [unhide HXS, streamL_get k n c l r hrl, hx]
      by_cases hm0 : m = 0
      · subst hm0
        have hm3 : (r : Int) % 64 = 0 := by omega
        have hm4 : Int.tmod (r : Int) 64 = 0 := by rw [Int.tmod_eq_emod_of_nonneg (by omega)]; omega
        clear hm1 hm2 m0 m1
        have hbk := block_any wr k n (c + BitVec.ofNat 32 d) (unhide HK) (unhide HN) ((unhide HT).kept0 hg)
        rw [← unhide HKA, ← unhide HNA] at hbk
        obtain ⟨cd, hcd⟩ : ∃ cd, cd = (BitVec.ofNat 32 d : W) := ⟨_, rfl⟩
        have hwc := wz_count d
        rw [← hcd] at hbk hwc hkey
        obtain ⟨bl2, hbe2⟩ : ∃ b, b = blockL k n (c + cd) := ⟨_, rfl⟩
        rw [← hbe2] at hbk
        have hbl2 : bl2.length = 64 := by rw [hbe2]; exact blockL_length _ _ _
        have hsz : ((bl2.map bv).toArray).size = 64 := by simp [hbl2]
        have hsz0 : ((bl.map bv).toArray).size = 64 := by simp [hbl]
        have HSZ0 := hide hsz0
        clear hsz0
        have ha := w_add
        have ham := w_addm
        have hK1 : wr.heap[w.heap.size]? = some (.cells KA 37 (0, 0)) := by rw [unhide HKA]; exact hKb
        have hN1 : wr.heap[w.heap.size + 1]? = some (.cells NA 64 (0, 0)) := by rw [unhide HNA]; exact hNb
        have HK1 := hide hK1
        have HN1 := hide hN1
        have HB := hide hB
        have HLb := hide hLb
        have HKb := hide hKb
        have HNb := hide hNb
        have HSZ := hide hsz
        have HX := hide hx
        have HXR := hide hxr
        have HKEY := hide hkey
        have HBE2 := hide hbe2
        have HBL := hide hbl2
        have HCD := hide hcd
        have HMM := hide hm
        have HDD := hide hd
        clear hK1 hN1 hB hLb hKb hNb hsz hx hxr hkey hbe2 hbl2 hcd hm hd hbw hbe hbl
        go_wp2_with (first
          | (refine wpList_load_row rfl 37 _ rfl w.heap.size rfl _ _ _ _ (unhide HK1) Tryd.underlying37 rfl ?_ ?_; (rw [unhide HKZ]; exact hi32))
          | (refine wpList_load_row rfl 64 _ rfl (w.heap.size + 1) rfl _ _ _ _ (unhide HN1) Tryd.underlying64 rfl ?_ ?_; (rw [unhide HNZ]; exact hi12)))
        refine hbk.mono ?_
        rintro e w2 ⟨rfl, g2⟩
        clear hbk ha ham hwc
        have hB' := (unhide HB).kept g2 (by simp)
        obtain ⟨W3, hW3⟩ : ∃ W3, W3 = w2.setRow (w.heap.size + 3) (bl2.map bv).toArray := ⟨_, rfl⟩
        have hBv : Blk W3 (w.heap.size + 3) 97 (bl2.map bv) := by rw [hW3]; exact hB'.row _
        have hLv : Blk W3 (w.heap.size + 2) 5 ((xs.take r ++ List.replicate (N - r) 0).map bv) := by rw [hW3]; exact ((unhide HLb).kept g2 (by simp)).row_other _ _ (by omega)
        have hKv : Blk W3 w.heap.size 37 (k.map bv) := by rw [hW3]; exact ((unhide HKb).kept g2 (by simp)).row_other _ _ (by omega)
        have hNv : Blk W3 (w.heap.size + 1) 64 (n.map bv) := by rw [hW3]; exact ((unhide HNb).kept g2 (by simp)).row_other _ _ (by omega)
        have hgv : w.grownBy W3 none := by rw [hW3]; exact gb_row (gb_trans hg g2 (fun _ e => by cases e)) _ (Or.inl (by omega))
        have hxr := unhide HXR
        have hkey := unhide HKEY
        have hm := unhide HMM
        have hd := unhide HDD
        have hbl2 := unhide HBL
        have hbe2 : bl2 = blockL k n (c + BitVec.ofNat 32 d) := by rw [unhide HBE2, unhide HCD]
        rw [unhide HCD] at hkey
        obtain ⟨y, hy⟩ : ∃ y, y = bl2.getD 0 0 := ⟨_, rfl⟩
        have hcy := hBv.byte 0 (by rw [hbl2]; omega)
        rw [← hy] at hcy
        unfold bv at hcy
        obtain ⟨z, hz⟩ : ∃ z, z = x ^^^ y := ⟨_, rfl⟩
        have hbx := b8_xor x y
        rw [← hz] at hbx
        have hcs : (W3.cell? ⟨w.heap.size + 2, r, none⟩).isSome = true ∧ W3.frozen? ⟨w.heap.size + 2, r, none⟩ = false := by
          have := hLv.there r 1 (by simp [unhide HXL, unhide HNN]; omega) 0 (by omega)
          simpa using this
        obtain ⟨hcs, hcf⟩ := hcs
        obtain ⟨ov, hcs⟩ := Option.isSome_iff_exists.1 hcs
        have hL2 : Blk (W3.setCell ⟨w.heap.size + 2, r, none⟩ (bv z)) (w.heap.size + 2) 5 ((xs.take (r + 1) ++ List.replicate (N - (r + 1)) 0).map bv) := by
          have h1 : xs.length = N := by rw [unhide HXL, unhide HNN]
          rw [← h1] at hLv ⊢
          exact hLv.filled1 (by omega) z (by rw [hxr, hkey, hz, hy, hbe2])
        have hB2 := hBv.other ⟨w.heap.size + 2, r, none⟩ (bv z) (by simp)
        have hK2 := hKv.other ⟨w.heap.size + 2, r, none⟩ (bv z) (by simp <;> omega)
        have hN2 := hNv.other ⟨w.heap.size + 2, r, none⟩ (bv z) (by simp)
        have hg2 : w.grownBy (W3.setCell ⟨w.heap.size + 2, r, none⟩ (bv z)) none := gb_setCell hgv _ _ (Or.inl (by simp <;> omega))
        have hnx : (r + 1) % 64 ≠ 0 → bl2 = blockL k n (c + BitVec.ofNat 32 ((r + 1) / 64)) := fun h => by
          rw [hbe2, show (r + 1) / 64 = d by omega]
        have HL2 := hide hL2
        have HB2 := hide hB2
        have HK2 := hide hK2
        have HN2 := hide hN2
        have HG2 := hide hg2
        have HNX := hide hnx
        have HBL2 := hide hbl2
        clear hL2 hB2 hK2 hN2 hg2 hnx hbl2 hBv hLv hKv hNv hy hz hbe2 hkey hxr
        have HB' := hide hB'
        have HW3 := hide hW3
        clear hB' hW3 hm hd
        go_wp2_with (refine wpList_store_row rfl 97 _ _ rfl (w.heap.size + 3) _ rfl rfl _ _ (unhide HB') ?_ ?_ ?_ ?_; (rw [unhide HSZ]; exact hi64); (rw [unhide HSZ, unhide HSZ0]); (exact all_oneCell_toArray (bv_one _)); rw [← unhide HW3])
        go_roundw
        case rel => exact ⟨r + 1, bl2, by omega, by go_num, unhide HBL2, unhide HNX, unhide HB2, unhide HL2, unhide HK2, unhide HN2, unhide HG2⟩
        case measure => simp [intOf]; omega
      · have hm3 : ¬ ((m : Int) = 0) := by omega
        have hm4 : ((m : Int) == 0) = false := by simpa using hm3
        have hbl2 := hbl
        obtain ⟨bl2, hbb⟩ : ∃ b, b = bl := ⟨_, rfl⟩
        rw [← hbb] at hbl2 hB
        have hBv := hB
        have hLv := hLb
        have hKv := hKb
        have hNv := hNb
        have hgv := hg
        have hbe2 : bl2 = blockL k n (c + BitVec.ofNat 32 d) := by rw [hbb, hd]; exact hbe (by omega)
        obtain ⟨y, hy⟩ : ∃ y, y = bl2.getD m 0 := ⟨_, rfl⟩
        have hcy := hBv.byte m (by rw [hbl2]; omega)
        rw [← hy] at hcy
        unfold bv at hcy
        obtain ⟨z, hz⟩ : ∃ z, z = x ^^^ y := ⟨_, rfl⟩
        have hbx := b8_xor x y
        rw [← hz] at hbx
        have hcs : (wr.cell? ⟨w.heap.size + 2, r, none⟩).isSome = true ∧ wr.frozen? ⟨w.heap.size + 2, r, none⟩ = false := by
          have := hLv.there r 1 (by simp [unhide HXL, unhide HNN]; omega) 0 (by omega)
          simpa using this
        obtain ⟨hcs, hcf⟩ := hcs
        obtain ⟨ov, hcs⟩ := Option.isSome_iff_exists.1 hcs
        have hL2 : Blk (wr.setCell ⟨w.heap.size + 2, r, none⟩ (bv z)) (w.heap.size + 2) 5 ((xs.take (r + 1) ++ List.replicate (N - (r + 1)) 0).map bv) := by
          have h1 : xs.length = N := by rw [unhide HXL, unhide HNN]
          rw [← h1] at hLv ⊢
          exact hLv.filled1 (by omega) z (by rw [hxr, hkey, hz, hy, hbe2])
        have hB2 := hBv.other ⟨w.heap.size + 2, r, none⟩ (bv z) (by simp)
        have hK2 := hKv.other ⟨w.heap.size + 2, r, none⟩ (bv z) (by simp <;> omega)
        have hN2 := hNv.other ⟨w.heap.size + 2, r, none⟩ (bv z) (by simp)
        have hg2 : w.grownBy (wr.setCell ⟨w.heap.size + 2, r, none⟩ (bv z)) none := gb_setCell hgv _ _ (Or.inl (by simp <;> omega))
        have hnx : (r + 1) % 64 ≠ 0 → bl2 = blockL k n (c + BitVec.ofNat 32 ((r + 1) / 64)) := fun h => by
          rw [hbe2, show (r + 1) / 64 = d by omega]
        have HL2 := hide hL2
        have HB2 := hide hB2
        have HK2 := hide hK2
        have HN2 := hide hN2
        have HG2 := hide hg2
        have HNX := hide hnx
        have HBL2 := hide hbl2
        clear hL2 hB2 hK2 hN2 hg2 hnx hbl2 hBv hLv hKv hNv hy hz hbe2 hkey hxr
        have HMM := hide hm
        have HDD := hide hd
        clear hB hLb hKb hNb hbw hbe hbl hbb hm hd hx
        go_wp2
        go_roundw
        case rel => exact ⟨r + 1, bl2, by omega, by go_num, unhide HBL2, unhide HNX, unhide HB2, unhide HL2, unhide HK2, unhide HN2, unhide HG2⟩
        case measure => simp [intOf]; omega
    · obtain rfl : r = N := by omega
      rw [Nat.sub_self, List.replicate_zero, List.append_nil, List.take_of_length_le (by rw [unhide HXL, unhide HNN]; exact Nat.le_refl _)] at hLb
      have HLb := hide hLb
      clear hLb hB hbe hKb hNb
      go_wp2
      go_ret
      exact ⟨rfl, unhide HLb, hg⟩

end Go.Proofs.YtjckdgapefaokaaDoor
