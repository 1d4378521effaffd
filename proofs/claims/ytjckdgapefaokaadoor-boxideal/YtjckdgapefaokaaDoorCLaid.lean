/- What chacha's wordOf, layWord and laidOut answer and leave. laidOut's: where the table holds what the program's text lays in it. No other condition but those that each lemma names. -/
import Derived.Test.YtjckdgapefaokaaDoorCQuart
namespace Go.Proofs.YtjckdgapefaokaaDoor
open Go.RowKit

/-- The table holds what it is laid with. -/
structure CTab (w : World) : Prop where
  fw : ∃ t fr, w.heap[2]? = some (.cells (Fw.map wv).toArray t fr)

theorem CTab.kept0 {w a : World} (h : CTab w) (g : w.grownBy a none) : CTab a := by
  obtain ⟨t, f, h1⟩ := h.fw
  refine ⟨⟨t, f, ?_⟩⟩
  rw [g.block _ (Array.getElem?_eq_some_iff.1 h1).1 (by simp)]; exact h1

set_option maxRecDepth 100000 in
theorem le_word4 (n0 n1 n2 n3 : Nat) (h0 : n0 < 256) (h1 : n1 < 256) (h2 : n2 < 256) (h3 : n3 < 256) :
    bits .or .u32 (bits .or .u32 (bits .or .u32 (n0 : Int) ((n1 : Int) * 256)) ((n2 : Int) * 65536)) ((n3 : Int) * 16777216) =
      ((n0 + n1 * 256 + n2 * 65536 + n3 * 16777216 : Nat) : Int) := by
  have e1 : (n1 : Int) * 256 = ((n1 * 256 : Nat) : Int) := by omega
  have e2 : (n2 : Int) * 65536 = ((n2 * 65536 : Nat) : Int) := by omega
  have e3 : (n3 : Int) * 16777216 = ((n3 * 16777216 : Nat) : Int) := by omega
  have p24 : (2 : Nat) ^ 24 = 16777216 := rfl
  have p16 : (2 : Nat) ^ 16 = 65536 := rfl
  have p8 : (2 : Nat) ^ 8 = 256 := rfl
  have j1 : n0 ||| n1 * 256 = n0 + n1 * 256 := by
    have := Nat.shiftLeft_add_eq_or_of_lt (b := n0) (i := 8) (by rw [p8]; omega) n1
    rw [Nat.shiftLeft_eq, p8] at this; rw [Nat.or_comm, ← this]; omega
  have j2 : (n0 + n1 * 256) ||| n2 * 65536 = n0 + n1 * 256 + n2 * 65536 := by
    have := Nat.shiftLeft_add_eq_or_of_lt (b := n0 + n1 * 256) (i := 16) (by rw [p16]; omega) n2
    rw [Nat.shiftLeft_eq, p16] at this; rw [Nat.or_comm, ← this]; omega
  have j3 : (n0 + n1 * 256 + n2 * 65536) ||| n3 * 16777216 = n0 + n1 * 256 + n2 * 65536 + n3 * 16777216 := by
    have := Nat.shiftLeft_add_eq_or_of_lt (b := n0 + n1 * 256 + n2 * 65536) (i := 24) (by rw [p24]; omega) n3
    rw [Nat.shiftLeft_eq, p24] at this; rw [Nat.or_comm, ← this]; omega
  rw [e1, e2, e3, u32_or_nat _ _ (by omega) (by omega), j1, u32_or_nat _ _ (by omega) (by omega), j2, u32_or_nat _ _ (by omega) (by omega), j3]

theorem wz_leOf (a b c d : UInt8) : wz (leOf a b c d) = ((a.toNat + b.toNat * 256 + c.toNat * 65536 + d.toNat * 16777216 : Nat) : Int) := by
  have := a.toNat_lt
  have := b.toNat_lt
  have := c.toNat_lt
  have := d.toNat_lt
  unfold wz leOf
  rw [BitVec.toNat_ofNat, Nat.mod_eq_of_lt (by omega)]

set_option maxRecDepth 100000 in
set_option maxHeartbeats 1000000 in
theorem wordOf_any (w : World) (b p n c : Nat) (hn : 4 ≤ n) (x0 x1 x2 x3 : UInt8) (c0 : w.cell? ⟨b, p, none⟩ = some (bv x0)) (c1 : w.cell? ⟨b, p + 1, none⟩ = some (bv x1)) (c2 : w.cell? ⟨b, p + 2, none⟩ = some (bv x2)) (c3 : w.cell? ⟨b, p + 3, none⟩ = some (bv x3)) :
    Calls Tryd.prog 95 #[.slice (some ⟨b, p, none⟩) n c] w fun e w' => e = .returned (.int .u32 (wz (leOf x0 x1 x2 x3))) ∧ w.grownBy w' none := by
  obtain ⟨n0, hn0⟩ : ∃ n, n = x0.toNat := ⟨_, rfl⟩
  obtain ⟨n1, hn1⟩ : ∃ n, n = x1.toNat := ⟨_, rfl⟩
  obtain ⟨n2, hn2⟩ : ∃ n, n = x2.toNat := ⟨_, rfl⟩
  obtain ⟨n3, hn3⟩ : ∃ n, n = x3.toNat := ⟨_, rfl⟩
  have l0 : n0 < 256 := by rw [hn0]; exact x0.toNat_lt
  have l1 : n1 < 256 := by rw [hn1]; exact x1.toNat_lt
  have l2 : n2 < 256 := by rw [hn2]; exact x2.toNat_lt
  have l3 : n3 < 256 := by rw [hn3]; exact x3.toNat_lt
  unfold bv at c0 c1 c2 c3
  rw [← hn0] at c0
  rw [← hn1] at c1
  rw [← hn2] at c2
  rw [← hn3] at c3
  have hx : ((n0 + n1 * 256 + n2 * 65536 + n3 * 16777216 : Nat) : Int) = wz (leOf x0 x1 x2 x3) := by rw [wz_leOf, hn0, hn1, hn2, hn3]
  obtain ⟨z, hz⟩ : ∃ z, z = leOf x0 x1 x2 x3 := ⟨_, rfl⟩
  rw [← hz] at hx ⊢
  have HX := hide hx
  clear hx hz hn0 hn1 hn2 hn3
  have q0 : (0 : Int) < (n : Int) := by omega
  have q1 : (1 : Int) < (n : Int) := by omega
  have q2 : (2 : Int) < (n : Int) := by omega
  have q3 : (3 : Int) < (n : Int) := by omega
  go_enter Tryd.func95, Tryd.ntmps95
  go_wp2
  go_quiet (fail)
  go_wp2
  go_ret
  rw [le_word4 n0 n1 n2 n3 l0 l1 l2 l3, unhide HX]
  exact ⟨rfl, gb_drewN (gb_refl _ _) _⟩

theorem le4_at (x : W) (k : Nat) (h : k < (le4 x).length) : Value.int .u8 (wz x / 2 ^ (8 * k) % 256) = bv (le4 x)[k] := by
  unfold bv wz
  rw [le4_get, UInt8.toNat_ofNat']
  congr 1

set_option maxRecDepth 100000 in
set_option maxHeartbeats 400000 in
theorem layWord_any (w : World) (b p c : Nat) (x : W) (ht : w.there b p 4) :
    Calls Tryd.prog 71 #[.slice (some ⟨b, p, none⟩) 4 c, .int .u32 (wz x)] w fun e w' => e = .returned (.tuple #[]) ∧ w' = w.setCells b p ((le4 x).map bv) := by
  go_enter Tryd.func71, Tryd.ntmps71
  go_wp2
  go_loopw [7] (fun i wr => ∃ k : Nat, k ≤ 4 ∧ i = .int .i64 k ∧ wr = w.setCells b p (((le4 x).take k).map bv)) (fun i _ => 4 - (intOf i).toNat)
  case atStart => exact ⟨0, Nat.zero_le _, rfl, rfl⟩
  case round =>
    obtain ⟨k, hk, rfl, rfl⟩ := hrel
    by_cases hlt : k < 4
    · have hlen : (le4 x).length = 4 := le4_length x
      have hbk : k < (le4 x).length := by omega
      obtain ⟨wq, hwq⟩ : ∃ wq, wq = w.setCells b p (((le4 x).take k).map bv) := ⟨_, rfl⟩
      rw [← hwq]
      have hth := World.there_setCells ht b p (((le4 x).take k).map bv) k hlt
      rw [← hwq] at hth
      obtain ⟨hcs, hcf⟩ := hth
      obtain ⟨ov, hcs⟩ := Option.isSome_iff_exists.1 hcs
      have HW := hide hwq
      have HL := hide hlen
      have hq1 : (k : Int) < 4 := by omega
      clear hwq hlen
      go_wp2
      go_roundw
      case rel =>
        refine ⟨k + 1, by omega, by go_num, ?_⟩
        rw [le4_at x k hbk, unhide HW]
        have hl2 : (((le4 x).take k).map bv).length = k := by simp [unhide HL]; omega
        have := setCells_snoc b (bv (le4 x)[k]) (((le4 x).take k).map bv) p w
        rw [hl2] at this
        rw [this, take_snoc hbk, List.map_append]
        rfl
      case measure => simp [intOf]; omega
    · obtain rfl : k = 4 := by omega
      go_wp2
      go_end0
      rw [List.take_of_length_le (by simp [le4_length])]
      exact ⟨rfl, rfl⟩

/-- What is behind a place of an array in memory. -/
theorem Blk.byte {w : World} {b : Nat} {t : TypeId} {l : List UInt8} (h : Blk w b t (l.map bv)) (i : Nat) (hi : i < l.length) : w.cell? ⟨b, i, none⟩ = some (bv (l.getD i 0)) := by
  rw [h.cell, List.getElem?_map, List.getElem?_eq_getElem hi, show l.getD i 0 = l[i] by simp [List.getD, hi]]
  rfl

theorem zero16w (w : World) : (zeroValue 126).run Tryd.prog w = .ok (.agg ((List.replicate 16 (0 : W)).map wv).toArray) w := by kernel_rfl

theorem firstL_lo (k n : List UInt8) (c : W) (i : Nat) (hi : i < 4) : (firstL k n c).getD i 0 = Fw.getD i 0 := by
  rw [firstL, List.getD, List.getElem?_append_left (by exact hi)]; rfl
theorem firstL_key (k n : List UInt8) (c : W) (i : Nat) (hi : i < 8) : (firstL k n c).getD (4 + i) 0 = leAt k i := by
  rw [firstL, List.getD, List.getElem?_append_right (by simp [Fw]), show 4 + i - Fw.length = i by simp [Fw], List.getElem?_append_left (by simpa using hi)]
  simp [hi]
theorem firstL_count (k n : List UInt8) (c : W) : (firstL k n c).getD 12 0 = c := by
  rfl
theorem firstL_nonce (k n : List UInt8) (c : W) (i : Nat) (hi : i < 3) : (firstL k n c).getD (13 + i) 0 = leAt n i := by
  rw [firstL, List.getD, List.getElem?_append_right (by simp [Fw]; omega), show 13 + i - Fw.length = 9 + i by simp [Fw]; omega, List.getElem?_append_right (by simp; omega), show 9 + i - ((List.range 8).map (leAt k)).length = 1 + i by simp; omega, List.getElem?_append_right (by simp), show 1 + i - [c].length = i by simp]
  simp [hi]

theorem first_step (k n : List UInt8) (c : W) (i : Nat) (hi : i < 16) (x : W) (hx : (firstL k n c).getD i 0 = x) : ((((firstL k n c).take i ++ List.replicate (16 - i) 0).map wv).set i (wv x)) = ((firstL k n c).take (i + 1) ++ List.replicate (16 - (i + 1)) 0).map wv := by
  have hl : i < (firstL k n c).length := by rw [firstL_length]; exact hi
  exact fill_step (firstL k n c) 16 i x hl (by rw [← hx]; simp [List.getD, hl]) hi

end Go.Proofs.YtjckdgapefaokaaDoor
