/- What chacha's wordOf, layWord and laidOut answer and leave. laidOut's: where the table holds what the program's text lays in it. No other condition but those that each lemma names. -/
import Derived.Test.YtjckdgapefaokaaDoorCQuart
namespace Go.Proofs.YtjckdgapefaokaaDoor
open Go.RowKit

/-- The table holds what it is laid with. -/
structure CTab (w : World) : Prop where
  fw : ∃ t fr, w.heap[2]? = some (.cells (Fw.map wv).toArray t fr)

theorem CTab.kept0 {w a : World} (h : CTab w) (g : w.grownBy a none) : CTab a := by
  obtain ⟨t, f, h1⟩ := h.fw
  refine ⟨⟨t, f, ?_⟩⟩
  rw [g.block _ (Array.getElem?_eq_some_iff.1 h1).1 (by simp)]; exact h1

set_option maxRecDepth 100000 in
theorem le_word4 (n0 n1 n2 n3 : Nat) (h0 : n0 < 256) (h1 : n1 < 256) (h2 : n2 < 256) (h3 : n3 < 256) :
    bits .or .u32 (bits .or .u32 (bits .or .u32 (n0 : Int) ((n1 : Int) * 256)) ((n2 : Int) * 65536)) ((n3 : Int) * 16777216) =
      ((n0 + n1 * 256 + n2 * 65536 + n3 * 16777216 : Nat) : Int) := by
  have e1 : (n1 : Int) * 256 = ((n1 * 256 : Nat) : Int) := by omega
  have e2 : (n2 : Int) * 65536 = ((n2 * 65536 : Nat) : Int) := by omega
  have e3 : (n3 : Int) * 16777216 = ((n3 * 16777216 : Nat) : Int) := by omega
  have p24 : (2 : Nat) ^ 24 = 16777216 := rfl
  have p16 : (2 : Nat) ^ 16 = 65536 := rfl
  have p8 : (2 : Nat) ^ 8 = 256 := rfl
  have j1 : n0 ||| n1 * 256 = n0 + n1 * 256 := by
    have := Nat.shiftLeft_add_eq_or_of_lt (b := n0) (i := 8) (by rw [p8]; omega) n1
    rw [Nat.shiftLeft_eq, p8] at this; rw [Nat.or_comm, ← this]; omega
  have j2 : (n0 + n1 * 256) ||| n2 * 65536 = n0 + n1 * 256 + n2 * 65536 := by
    have := Nat.shiftLeft_add_eq_or_of_lt (b := n0 + n1 * 256) (i := 16) (by rw [p16]; omega) n2
    rw [Nat.shiftLeft_eq, p16] at this; rw [Nat.or_comm, ← this]; omega
  have j3 : (n0 + n1 * 256 + n2 * 65536) ||| n3 * 16777216 = n0 + n1 * 256 + n2 * 65536 + n3 * 16777216 := by
    have := Nat.shiftLeft_add_eq_or_of_lt (b := n0 + n1 * 256 + n2 * 65536) (i := 24) (by rw [p24]; omega) n3
    rw [Nat.shiftLeft_eq, p24] at this; rw [Nat.or_comm, ← this]; omega
  rw [e1, e2, e3, u32_or_nat _ _ (by omega) (by omega), j1, u32_or_nat _ _ (by omega) (by omega), j2, u32_or_nat _ _ (by omega) (by omega), j3]

theorem wz_leOf (a b c d : UInt8) : wz (leOf a b c d) = ((a.toNat + b.toNat * 256 + c.toNat * 65536 + d.toNat * 16777216 : Nat) : Int) := by
  have := a.toNat_lt
  have := b.toNat_lt
  have := c.toNat_lt
  have := d.toNat_lt
  unfold wz leOf
  rw [BitVec.toNat_ofNat, Nat.mod_eq_of_lt (by omega)]

set_option maxRecDepth 100000 in
set_option maxHeartbeats 1000000 in
theorem wordOf_any (w : World) (b p n c : Nat) (hn : 4 ≤ n) (x0 x1 x2 x3 : UInt8) (c0 : w.cell? ⟨b, p, none⟩ = some (bv x0)) (c1 : w.cell? ⟨b, p + 1, none⟩ = some (bv x1)) (c2 : w.cell? ⟨b, p + 2, none⟩ = some (bv x2)) (c3 : w.cell? ⟨b, p + 3, none⟩ = some (bv x3)) :
    Calls Tryd.prog 95 #[.slice (some ⟨b, p, none⟩) n c] w fun e w' => e = .returned (.int .u32 (wz (leOf x0 x1 x2 x3))) ∧ w.grownBy w' none := by
  obtain ⟨n0, hn0⟩ : ∃ n, n = x0.toNat := ⟨_, rfl⟩
  obtain ⟨n1, hn1⟩ : ∃ n, n = x1.toNat := ⟨_, rfl⟩
  obtain ⟨n2, hn2⟩ : ∃ n, n = x2.toNat := ⟨_, rfl⟩
  obtain ⟨n3, hn3⟩ : ∃ n, n = x3.toNat := ⟨_, rfl⟩
  have l0 : n0 < 256 := by rw [hn0]; exact x0.toNat_lt
  have l1 : n1 < 256 := by rw [hn1]; exact x1.toNat_lt
  have l2 : n2 < 256 := by rw [hn2]; exact x2.toNat_lt
  have l3 : n3 < 256 := by rw [hn3]; exact x3.toNat_lt
  unfold bv at c0 c1 c2 c3
  rw [← hn0] at c0
  rw [← hn1] at c1
  rw [← hn2] at c2
  rw [← hn3] at c3
  have hx : ((n0 + n1 * 256 + n2 * 65536 + n3 * 16777216 : Nat) : Int) = wz (leOf x0 x1 x2 x3) := by rw [wz_leOf, hn0, hn1, hn2, hn3]
  obtain ⟨z, hz⟩ : ∃ z, z = leOf x0 x1 x2 x3 := ⟨_, rfl⟩
  rw [← hz] at hx ⊢
  have HX := hide hx
  clear hx hz hn0 hn1 hn2 hn3
  have q0 : (0 : Int) < (n : Int) := by omega
  have q1 : (1 : Int) < (n : Int) := by omega
  have q2 : (2 : Int) < (n : Int) := by omega
  have q3 : (3 : Int) < (n : Int) := by omega
  go_enter Tryd.func95, Tryd.ntmps95
  go_wp2
  go_quiet (fail)
  go_wp2
  go_ret
  rw [le_word4 n0 n1 n2 n3 l0 l1 l2 l3, unhide HX]
  exact ⟨rfl, gb_drewN (gb_refl _ _) _⟩

theorem le4_at (x : W) (k : Nat) (h : k < (le4 x).length) : Value.int .u8 (wz x / 2 ^ (8 * k) % 256) = bv (le4 x)[k] := by
  unfold bv wz
  rw [le4_get, UInt8.toNat_ofNat']
  congr 1

set_option maxRecDepth 100000 in
set_option maxHeartbeats 400000 in
theorem layWord_any (w : World) (b p c : Nat) (x : W) (ht : w.there b p 4) :
    Calls Tryd.prog 71 #[.slice (some ⟨b, p, none⟩) 4 c, .int .u32 (wz x)] w fun e w' => e = .returned (.tuple #[]) ∧ w' = w.setCells b p ((le4 x).map bv) := by
  go_enter Tryd.func71, Tryd.ntmps71
  go_wp2
  go_loopw [7] (fun i wr => ∃ k : Nat, k ≤ 4 ∧ i = .int .i64 k ∧ wr = w.setCells b p (((le4 x).take k).map bv)) (fun i _ => 4 - (intOf i).toNat)
  case atStart => exact ⟨0, Nat.zero_le _, rfl, rfl⟩
  case round =>
    obtain ⟨k, hk, rfl, rfl⟩ := hrel
    by_cases hlt : k < 4
    · have hlen : (le4 x).length = 4 := le4_length x
      have hbk : k < (le4 x).length := by omega
      obtain ⟨wq, hwq⟩ : ∃ wq, wq = w.setCells b p (((le4 x).take k).map bv) := ⟨_, rfl⟩
      rw [← hwq]
      have hth := World.there_setCells ht b p (((le4 x).take k).map bv) k hlt
      rw [← hwq] at hth
      obtain ⟨hcs, hcf⟩ := hth
      obtain ⟨ov, hcs⟩ := Option.isSome_iff_exists.1 hcs
      have HW := hide hwq
      have HL := hide hlen
      have hq1 : (k : Int) < 4 := by omega
      clear hwq hlen
      go_wp2
      go_roundw
      case rel =>
        refine ⟨k + 1, by omega, by go_num, ?_⟩
        rw [le4_at x k hbk, unhide HW]
        have hl2 : (((le4 x).take k).map bv).length = k := by simp [unhide HL]; omega
        have := setCells_snoc b (bv (le4 x)[k]) (((le4 x).take k).map bv) p w
        rw [hl2] at this
        rw [this, take_snoc hbk, List.map_append]
        rfl
      case measure => simp [intOf]; omega
    · obtain rfl : k = 4 := by omega
      go_wp2
      go_end0
      rw [List.take_of_length_le (by simp [le4_length])]
      exact ⟨rfl, rfl⟩

/-- What is behind a place of an array in memory. -/
theorem Blk.byte {w : World} {b : Nat} {t : TypeId} {l : List UInt8} (h : Blk w b t (l.map bv)) (i : Nat) (hi : i < l.length) : w.cell? ⟨b, i, none⟩ = some (bv (l.getD i 0)) := by
  rw [h.cell, List.getElem?_map, List.getElem?_eq_getElem hi, show l.getD i 0 = l[i] by simp [List.getD, hi]]
  rfl

theorem zero16w (w : World) : (zeroValue 126).run Tryd.prog w = .ok (.agg ((List.replicate 16 (0 : W)).map wv).toArray) w := by kernel_rfl

theorem firstL_lo (k n : List UInt8) (c : W) (i : Nat) (hi : i < 4) : (firstL k n c).getD i 0 = Fw.getD i 0 := by
  rw [firstL, List.getD, List.getElem?_append_left (by exact hi)]; rfl
theorem firstL_key (k n : List UInt8) (c : W) (i : Nat) (hi : i < 8) : (firstL k n c).getD (4 + i) 0 = leAt k i := by
  rw [firstL, List.getD, List.getElem?_append_right (by simp [Fw]), show 4 + i - Fw.length = i by simp [Fw], List.getElem?_append_left (by simpa using hi)]
  simp [hi]
theorem firstL_count (k n : List UInt8) (c : W) : (firstL k n c).getD 12 0 = c := by
  rfl
theorem firstL_nonce (k n : List UInt8) (c : W) (i : Nat) (hi : i < 3) : (firstL k n c).getD (13 + i) 0 = leAt n i := by
  rw [firstL, List.getD, List.getElem?_append_right (by simp [Fw]; omega), show 13 + i - Fw.length = 9 + i by simp [Fw]; omega, List.getElem?_append_right (by simp; omega), show 9 + i - ((List.range 8).map (leAt k)).length = 1 + i by simp; omega, List.getElem?_append_right (by simp), show 1 + i - [c].length = i by simp]
  simp [hi]

theorem first_step (k n : List UInt8) (c : W) (i : Nat) (hi : i < 16) (x : W) (hx : (firstL k n c).getD i 0 = x) : ((((firstL k n c).take i ++ List.replicate (16 - i) 0).map wv).set i (wv x)) = ((firstL k n c).take (i + 1) ++ List.replicate (16 - (i + 1)) 0).map wv := by
  have hl : i < (firstL k n c).length := by rw [firstL_length]; exact hi
  exact fill_step (firstL k n c) 16 i x hl (by rw [← hx]; simp [List.getD, hl]) hi

end Go.Proofs.YtjckdgapefaokaaDoor

/- What chacha's laidOut answers: the words that a block begins with. Where the table holds what the program's text lays in it, of a key of 32 bytes and a nonce of 12. -/
namespace Go.Proofs.YtjckdgapefaokaaDoor
open Go.RowKit

set_option maxRecDepth 100000 in
set_option maxHeartbeats 2000000 in
theorem laidOut_any (w : World) (k n : List UInt8) (c : W) (hk : k.length = 32) (hn : n.length = 12) (hT : CTab w) :
    Calls Tryd.prog 69 #[.agg (k.map bv).toArray, .agg (n.map bv).toArray, .int .u32 (wz c)] w fun e w' => e = .returned (.agg ((firstL k n c).map wv).toArray) ∧ w.grownBy w' none := by
  have hi16 : (Tryd.prog.info? 126).map (·.size) = some 16 := by kernel_rfl
  obtain ⟨KA, hKA⟩ : ∃ A : Array Value, A = (k.map bv).toArray := ⟨_, rfl⟩
  obtain ⟨NA, hNA⟩ : ∃ A : Array Value, A = (n.map bv).toArray := ⟨_, rfl⟩
  obtain ⟨Z, hZ⟩ : ∃ A : Array Value, A = ((List.replicate 16 (0 : W)).map wv).toArray := ⟨_, rfl⟩
  have hz := zero16w
  rw [← hZ] at hz
  rw [← hKA, ← hNA]
  obtain ⟨F, hF⟩ : ∃ F, F = firstL k n c := ⟨_, rfl⟩
  have hFl : F.length = 16 := by rw [hF]; exact firstL_length _ _ _
  obtain ⟨W1, hW1⟩ : ∃ W1, W1 = (((w.alloc (.cells KA 37)).alloc (.cells NA 64)).alloc (.cells Z 126)).alloc (.cells Z 126) := ⟨_, rfl⟩
  have hg1 : w.grownBy W1 none := by rw [hW1]; exact gb_alloc (gb_alloc (gb_alloc (gb_alloc (gb_refl _ _) _) _) _) _
  have hK1 : Blk W1 w.heap.size 37 (k.map bv) := by
    rw [hW1, hKA]; exact (((Blk.new w 37 (k.map bv)).alloc _).alloc _).alloc _
  have hN1 : Blk W1 (w.heap.size + 1) 64 (n.map bv) := by
    have := Blk.new (w.alloc (.cells KA 37)) 64 (n.map bv)
    rw [World.size_alloc] at this
    rw [hW1, hNA]; exact (this.alloc _).alloc _
  have hR1 : Blk W1 (w.heap.size + 2) 126 ((List.replicate 16 (0 : W)).map wv) := by
    have := Blk.new ((w.alloc (.cells KA 37)).alloc (.cells NA 64)) 126 ((List.replicate 16 (0 : W)).map wv)
    rw [World.size_alloc, World.size_alloc] at this
    rw [hW1, hZ]; exact this.alloc _
  have hB1 : Blk W1 (w.heap.size + 3) 126 ((F.take 0 ++ List.replicate (16 - 0) 0).map wv) := by
    have := Blk.new (((w.alloc (.cells KA 37)).alloc (.cells NA 64)).alloc (.cells Z 126)) 126 ((List.replicate 16 (0 : W)).map wv)
    rw [World.size_alloc, World.size_alloc, World.size_alloc] at this
    rw [List.take_zero, List.nil_append, hW1]
    conv => arg 1; arg 2; rw [hZ]
    exact this
  obtain ⟨tq, fq, hq⟩ := (hT.kept0 hg1).fw
  have HKA := hide hKA
  have HNA := hide hNA
  have HZ := hide hZ
  have HF := hide hF
  have HFL := hide hFl
  have HW1 := hide hW1
  have HK := hide hk
  have HN := hide hn
  have HQ := hide hq
  have HT := hide hT
  have HK1 := hide hK1
  have HN1 := hide hN1
  have HR1 := hide hR1
  have HB1 := hide hB1
  clear hKA hNA hZ hF hFl hW1 hk hn hq hT hK1 hN1 hR1 hB1
  go_enter Tryd.func69, Tryd.ntmps69
  go_wp2_with (rw [← unhide HW1]; refine wpList_load_row rfl 158 _ rfl 2 rfl _ _ _ _ (unhide HQ) Tryd.underlying158 rfl (by kernel_rfl) ?_)
  go_loopw [13] (fun i wr => ∃ r : Nat, r ≤ 4 ∧ i = .int .i64 r ∧ Blk wr (w.heap.size + 3) 126 ((F.take (r) ++ List.replicate (16 - (r)) 0).map wv) ∧ Blk wr (w.heap.size + 2) 126 ((List.replicate 16 (0 : W)).map wv) ∧ Blk wr w.heap.size 37 (k.map bv) ∧ Blk wr (w.heap.size + 1) 64 (n.map bv) ∧ w.grownBy wr none) (fun i _ => 4 - (intOf i).toNat)
  case atStart => exact ⟨0, Nat.zero_le _, rfl, unhide HB1, unhide HR1, unhide HK1, unhide HN1, hg1⟩
  case round =>
    clear HB1 HR1 HK1 HN1
    obtain ⟨r, hr, rfl, hB, hR, hKb, hNb, hg⟩ := hrel
    by_cases hlt : r < 4
    · obtain ⟨x, hx⟩ : ∃ x, x = Fw.getD r 0 := ⟨_, rfl⟩
      have hidx := index_row 158 92 4 (Fw.map wv) r (.int .u32 (wz x)) Tryd.underlying158 size_word agg_word hlt (by
        have hl2 : r < Fw.length := hlt
        rw [List.getElem?_map, List.getElem?_eq_getElem hl2, hx, show Fw.getD r 0 = Fw[r] by simp [List.getD, hl2]]; rfl)
      have hcs : (wr.cell? ⟨w.heap.size + 3, r, none⟩).isSome = true ∧ wr.frozen? ⟨w.heap.size + 3, r, none⟩ = false := by
        have := hB.there (r) 1 (by simp [unhide HFL]; omega) 0 (by omega)
        simpa using this
      obtain ⟨hcs, hcf⟩ := hcs
      obtain ⟨ov, hcs⟩ := Option.isSome_iff_exists.1 hcs
      have hq0 : (0 : Int) ≤ (r : Int) := by omega
      have hq1 : (r : Int) < 4 := by omega
      have hq2 : (r : Int) < 16 := by omega
      have HX := hide hx
      have HB := hide hB
      have HR := hide hR
      have HKb := hide hKb
      have HNb := hide hNb
      clear hx hB hR hKb hNb
      go_wp2
      go_roundw
      case rel =>
        have hS := (unhide HB).set (r) (wv x)
        rw [unhide HF, first_step k n c (r) (by omega) x (by rw [firstL_lo k n c r hlt, unhide HX]), ← unhide HF] at hS
        exact ⟨r + 1, by omega, by go_num, hS, (unhide HR).other _ _ (by simp <;> omega), (unhide HKb).other _ _ (by simp <;> omega), (unhide HNb).other _ _ (by simp <;> omega), gb_setCell hg _ _ (Or.inl (by simp <;> omega))⟩
      case measure => simp [intOf]; omega
    · obtain rfl : r = 4 := by omega
      rw [show ((4 : Nat) : Int) = 4 from rfl]
      have HB := hide hB
      have HR := hide hR
      have HKb := hide hKb
      have HNb := hide hNb
      clear hB hR hKb hNb
      go_wp2
      go_loopw [21] (fun i wr => ∃ r : Nat, r ≤ 8 ∧ i = .int .i64 r ∧ Blk wr (w.heap.size + 3) 126 ((F.take (4 + r) ++ List.replicate (16 - (4 + r)) 0).map wv) ∧ Blk wr (w.heap.size + 2) 126 ((List.replicate 16 (0 : W)).map wv) ∧ Blk wr w.heap.size 37 (k.map bv) ∧ Blk wr (w.heap.size + 1) 64 (n.map bv) ∧ w.grownBy wr none) (fun i _ => 8 - (intOf i).toNat)
      case atStart => exact ⟨0, Nat.zero_le _, rfl, unhide HB, unhide HR, unhide HKb, unhide HNb, hg⟩
      case round =>
        clear HB HR HKb HNb hg
        obtain ⟨r, hr, rfl, hB, hR, hKb, hNb, hg⟩ := hrel
        by_cases hlt : r < 8
        · have hsl := slice_arr_from 37 5 32 Tryd.underlying37 size_byte w.heap.size 0 (4 * r) ((r : Int) * 4) (by omega) (by omega)
          rw [Nat.zero_add] at hsl
          have hwo := wordOf_any wr w.heap.size (4 * r) (32 - 4 * r) (32 - 4 * r) (by omega) _ _ _ _ (hKb.byte (4 * r) (by rw [unhide HK]; omega)) (hKb.byte (4 * r + 1) (by rw [unhide HK]; omega)) (hKb.byte (4 * r + 2) (by rw [unhide HK]; omega)) (hKb.byte (4 * r + 3) (by rw [unhide HK]; omega))
          rw [show leOf (k.getD (4 * r) 0) (k.getD (4 * r + 1) 0) (k.getD (4 * r + 2) 0) (k.getD (4 * r + 3) 0) = leAt k r from rfl] at hwo
          obtain ⟨x, hx⟩ : ∃ x, x = leAt k r := ⟨_, rfl⟩
          rw [← hx] at hwo
          obtain ⟨q, hq⟩ : ∃ q : Nat, q = 4 + r := ⟨_, rfl⟩
          obtain ⟨sp, hsp⟩ : ∃ sp : Nat, sp = 4 * r := ⟨_, rfl⟩
          obtain ⟨sn, hsn⟩ : ∃ sn : Nat, sn = 32 - 4 * r := ⟨_, rfl⟩
          rw [← hsp, show 32 - sp = sn by omega] at hsl hwo
          rw [← hq] at hB
          have hq0 : (0 : Int) ≤ (r : Int) := by omega
          have hq1 : (r : Int) < 8 := by omega
          have hw4 : IntKind.i64.wrap (4 + (r : Int)) = (q : Int) := by rw [IntKind.wrap_i64]; omega
          have b0 : (0 : Int) ≤ (q : Int) := by omega
          have b1 : (q : Int) < 16 := by omega
          have HX := hide hx
          have HQQ := hide hq
          have HB := hide hB
          have HR := hide hR
          have HKb := hide hKb
          have HNb := hide hNb
          clear hx hB hR hKb hNb hq hsp hsn
          go_wp2_with fail
          refine hwo.mono ?_
          rintro e w2 ⟨rfl, g2⟩
          have hB := (unhide HB).kept g2 (by simp)
          have hg2 := gb_trans hg g2 (fun _ e => by cases e)
          have hsz := g2.size
          have hqq := unhide HQQ
          have hcs : (w2.cell? ⟨w.heap.size + 3, q, none⟩).isSome = true ∧ w2.frozen? ⟨w.heap.size + 3, q, none⟩ = false := by
            have := hB.there (q) 1 (by simp [unhide HFL]; omega) 0 (by omega)
            simpa using this
          obtain ⟨hcs, hcf⟩ := hcs
          obtain ⟨ov, hcs⟩ := Option.isSome_iff_exists.1 hcs
          have HB2 := hide hB
          have HZ2 := hide hsz
          have HQ3 := hide hqq
          clear hB hsz hqq
          go_wp2
          go_roundw
          case rel =>
            have hS := (unhide HB2).set q (wv x)
            rw [unhide HF, first_step k n c q (by have := unhide HQ3; omega) x (by rw [unhide HQ3, firstL_key k n c r hlt, unhide HX]), ← unhide HF] at hS
            rw [unhide HQ3, show 4 + r + 1 = 4 + (r + 1) by omega] at hS
            rw [unhide HQ3]
            refine ⟨r + 1, by omega, by go_num, hS, ((unhide HR).kept g2 (by simp)).other _ _ (by simp <;> omega), ((unhide HKb).kept g2 (by simp)).other _ _ (by simp <;> omega), ((unhide HNb).kept g2 (by simp)).other _ _ (by simp <;> omega), gb_setCell hg2 _ _ (Or.inl (by simp <;> omega))⟩
          case measure => simp [intOf]; omega
        · obtain rfl : r = 8 := by omega
          rw [show ((8 : Nat) : Int) = 8 from rfl]
          rw [show 4 + 8 = 12 from rfl] at hB
          have hcs : (wr.cell? ⟨w.heap.size + 3, 12, none⟩).isSome = true ∧ wr.frozen? ⟨w.heap.size + 3, 12, none⟩ = false := by
            have := hB.there 12 1 (by simp [unhide HFL]) 0 (by omega)
            simpa using this
          obtain ⟨hcs, hcf⟩ := hcs
          obtain ⟨ov, hcs⟩ := Option.isSome_iff_exists.1 hcs
          have hS := hB.set 12 (wv c)
          rw [unhide HF, first_step k n c 12 (by omega) c (firstL_count k n c), ← unhide HF] at hS
          have hR2 := hR.other ⟨w.heap.size + 3, 12, none⟩ (wv c) (by simp)
          have hK2 := hKb.other ⟨w.heap.size + 3, 12, none⟩ (wv c) (by simp)
          have hN2 := hNb.other ⟨w.heap.size + 3, 12, none⟩ (wv c) (by simp)
          have hg2 : w.grownBy (wr.setCell ⟨w.heap.size + 3, 12, none⟩ (wv c)) none := gb_setCell hg _ _ (Or.inl (by simp <;> omega))
          have HB := hide hS
          have HR := hide hR2
          have HKb := hide hK2
          have HNb := hide hN2
          clear hB hR hKb hNb hS hR2 hK2 hN2
          go_wp2
          go_loopw [34] (fun i wr => ∃ r : Nat, r ≤ 3 ∧ i = .int .i64 r ∧ Blk wr (w.heap.size + 3) 126 ((F.take (13 + r) ++ List.replicate (16 - (13 + r)) 0).map wv) ∧ Blk wr (w.heap.size + 2) 126 ((List.replicate 16 (0 : W)).map wv) ∧ Blk wr w.heap.size 37 (k.map bv) ∧ Blk wr (w.heap.size + 1) 64 (n.map bv) ∧ w.grownBy wr none) (fun i _ => 3 - (intOf i).toNat)
          case atStart => exact ⟨0, Nat.zero_le _, rfl, unhide HB, unhide HR, unhide HKb, unhide HNb, hg2⟩
          case round =>
            clear HB HR HKb HNb hg hg2 hcs hcf
            obtain ⟨r, hr, rfl, hB, hR, hKb, hNb, hg⟩ := hrel
            by_cases hlt : r < 3
            · have hsl := slice_arr_from 64 5 12 Tryd.underlying64 size_byte (w.heap.size + 1) 0 (4 * r) ((r : Int) * 4) (by omega) (by omega)
              rw [Nat.zero_add] at hsl
              have hwo := wordOf_any wr (w.heap.size + 1) (4 * r) (12 - 4 * r) (12 - 4 * r) (by omega) _ _ _ _ (hNb.byte (4 * r) (by rw [unhide HN]; omega)) (hNb.byte (4 * r + 1) (by rw [unhide HN]; omega)) (hNb.byte (4 * r + 2) (by rw [unhide HN]; omega)) (hNb.byte (4 * r + 3) (by rw [unhide HN]; omega))
              rw [show leOf (n.getD (4 * r) 0) (n.getD (4 * r + 1) 0) (n.getD (4 * r + 2) 0) (n.getD (4 * r + 3) 0) = leAt n r from rfl] at hwo
              obtain ⟨x, hx⟩ : ∃ x, x = leAt n r := ⟨_, rfl⟩
              rw [← hx] at hwo
              obtain ⟨q, hq⟩ : ∃ q : Nat, q = 13 + r := ⟨_, rfl⟩
              obtain ⟨sp, hsp⟩ : ∃ sp : Nat, sp = 4 * r := ⟨_, rfl⟩
              obtain ⟨sn, hsn⟩ : ∃ sn : Nat, sn = 12 - 4 * r := ⟨_, rfl⟩
              rw [← hsp, show 12 - sp = sn by omega] at hsl hwo
              rw [← hq] at hB
              have hq0 : (0 : Int) ≤ (r : Int) := by omega
              have hq1 : (r : Int) < 3 := by omega
              have hw4 : IntKind.i64.wrap (13 + (r : Int)) = (q : Int) := by rw [IntKind.wrap_i64]; omega
              have b0 : (0 : Int) ≤ (q : Int) := by omega
              have b1 : (q : Int) < 16 := by omega
              have HX := hide hx
              have HQQ := hide hq
              have HB := hide hB
              have HR := hide hR
              have HKb := hide hKb
              have HNb := hide hNb
              clear hx hB hR hKb hNb hq hsp hsn
              go_wp2_with fail
              refine hwo.mono ?_
              rintro e w2 ⟨rfl, g2⟩
              have hB := (unhide HB).kept g2 (by simp)
              have hg2 := gb_trans hg g2 (fun _ e => by cases e)
              have hsz := g2.size
              have hqq := unhide HQQ
              have hcs : (w2.cell? ⟨w.heap.size + 3, q, none⟩).isSome = true ∧ w2.frozen? ⟨w.heap.size + 3, q, none⟩ = false := by
                have := hB.there (q) 1 (by simp [unhide HFL]; omega) 0 (by omega)
                simpa using this
              obtain ⟨hcs, hcf⟩ := hcs
              obtain ⟨ov, hcs⟩ := Option.isSome_iff_exists.1 hcs
              have HB2 := hide hB
              have HQ3 := hide hqq
              clear hB hsz hqq
              go_wp2
              go_roundw
              case rel =>
                have hS := (unhide HB2).set q (wv x)
                rw [unhide HF, first_step k n c q (by have := unhide HQ3; omega) x (by rw [unhide HQ3, firstL_nonce k n c r hlt, unhide HX]), ← unhide HF] at hS
                rw [unhide HQ3, show 13 + r + 1 = 13 + (r + 1) by omega] at hS
                rw [unhide HQ3]
                refine ⟨r + 1, by omega, by go_num, hS, ((unhide HR).kept g2 (by simp)).other _ _ (by simp <;> omega), ((unhide HKb).kept g2 (by simp)).other _ _ (by simp <;> omega), ((unhide HNb).kept g2 (by simp)).other _ _ (by simp <;> omega), gb_setCell hg2 _ _ (Or.inl (by simp <;> omega))⟩
              case measure => simp [intOf]; omega
            · obtain rfl : r = 3 := by omega
              rw [show ((3 : Nat) : Int) = 3 from rfl]
              rw [show 13 + 3 = 16 from rfl, show 16 - 16 = 0 from rfl, List.replicate_zero, List.append_nil, List.take_of_length_le (by rw [unhide HFL]; exact Nat.le_refl _)] at hB
              have hsz : ((F.map wv).toArray).size = 16 := by simp [unhide HFL]
              have HSZ := hide hsz
              clear hsz
              go_wp2_with (first | (refine wpList_load_row rfl 126 _ rfl (w.heap.size + 3) rfl _ _ _ _ hB Tryd.underlying126 rfl ?_ ?_; (rw [unhide HSZ]; exact hi16)) | (refine wpList_store_row rfl 126 _ _ rfl (w.heap.size + 2) _ rfl rfl _ _ hR ?_ ?_ ?_ ?_; (rw [unhide HSZ]; exact hi16); (rw [unhide HSZ]; rfl); (exact all_oneCell_toArray (wv_one _))))
              have hS := hR.row (F.map wv)
              have hG : w.grownBy (wr.setRow (w.heap.size + 2) (F.map wv).toArray) none := gb_row hg _ (Or.inl (by omega))
              refine bodyPost_ret (v := .agg (F.map wv).toArray) (results_cell_row (g := w.heap.size + 2) rfl _ _ _ _ _ _ ?_ hS Tryd.underlying126 rfl ?_) rfl ⟨?_, hG⟩
              · rfl
              · rw [unhide HSZ]; exact hi16
              · rw [unhide HF]

end Go.Proofs.YtjckdgapefaokaaDoor
