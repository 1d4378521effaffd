/- What chacha's wordOf, layWord and laidOut answer and leave. laidOut's: where the table holds what the program's text lays in it. No other condition but those that each lemma names. -/
import Derived.Test.YtjckdgapefaokaaDoorCQuart
import Derived.Test.YtjckdgapefaokaaDoorBMap
import Derived.Test.YtjckdgapefaokaaDoorDKeep
namespace Go.Proofs.YtjckdgapefaokaaDoor
open Go.RowKit

/-- The table holds what it is laid with. -/
structure CTab (w : World) : Prop where
  fw : ∃ t fr, w.heap[2]? = some (.cells (Fw.map wv).toArray t fr)

theorem CTab.kept0 {w a : World} (h : CTab w) (g : w.grownBy a none) : CTab a := by
  obtain ⟨t, f, h1⟩ := h.fw
  refine ⟨⟨t, f, ?_⟩⟩
  rw [g.block _ (Array.getElem?_eq_some_iff.1 h1).1 (by simp)]; exact h1

set_option maxRecDepth 100000 in
theorem le_word4 (n0 n1 n2 n3 : Nat) (h0 : n0 < 256) (h1 : n1 < 256) (h2 : n2 < 256) (h3 : n3 < 256) :
    bits .or .u32 (bits .or .u32 (bits .or .u32 (n0 : Int) ((n1 : Int) * 256)) ((n2 : Int) * 65536)) ((n3 : Int) * 16777216) =
      ((n0 + n1 * 256 + n2 * 65536 + n3 * 16777216 : Nat) : Int) := by
  have e1 : (n1 : Int) * 256 = ((n1 * 256 : Nat) : Int) := by omega
  have e2 : (n2 : Int) * 65536 = ((n2 * 65536 : Nat) : Int) := by omega
  have e3 : (n3 : Int) * 16777216 = ((n3 * 16777216 : Nat) : Int) := by omega
  have p24 : (2 : Nat) ^ 24 = 16777216 := rfl
  have p16 : (2 : Nat) ^ 16 = 65536 := rfl
  have p8 : (2 : Nat) ^ 8 = 256 := rfl
  have j1 : n0 ||| n1 * 256 = n0 + n1 * 256 := by
    have := Nat.shiftLeft_add_eq_or_of_lt (b := n0) (i := 8) (by rw [p8]; omega) n1
    rw [Nat.shiftLeft_eq, p8] at this; rw [Nat.or_comm, ← this]; omega
  have j2 : (n0 + n1 * 256) ||| n2 * 65536 = n0 + n1 * 256 + n2 * 65536 := by
    have := Nat.shiftLeft_add_eq_or_of_lt (b := n0 + n1 * 256) (i := 16) (by rw [p16]; omega) n2
    rw [Nat.shiftLeft_eq, p16] at this; rw [Nat.or_comm, ← this]; omega
  have j3 : (n0 + n1 * 256 + n2 * 65536) ||| n3 * 16777216 = n0 + n1 * 256 + n2 * 65536 + n3 * 16777216 := by
    have := Nat.shiftLeft_add_eq_or_of_lt (b := n0 + n1 * 256 + n2 * 65536) (i := 24) (by rw [p24]; omega) n3
    rw [Nat.shiftLeft_eq, p24] at this; rw [Nat.or_comm, ← this]; omega
  rw [e1, e2, e3, u32_or_nat _ _ (by omega) (by omega), j1, u32_or_nat _ _ (by omega) (by omega), j2, u32_or_nat _ _ (by omega) (by omega), j3]

theorem wz_leOf (a b c d : UInt8) : wz (leOf a b c d) = ((a.toNat + b.toNat * 256 + c.toNat * 65536 + d.toNat * 16777216 : Nat) : Int) := by
  have := a.toNat_lt
  have := b.toNat_lt
  have := c.toNat_lt
  have := d.toNat_lt
  unfold wz leOf
  rw [BitVec.toNat_ofNat, Nat.mod_eq_of_lt (by omega)]

set_option maxRecDepth 100000 in
set_option maxHeartbeats 1000000 in
theorem wordOf_any (w : World) (b p n c : Nat) (hn : 4 ≤ n) (x0 x1 x2 x3 : UInt8) (c0 : w.cell? ⟨b, p, none⟩ = some (bv x0)) (c1 : w.cell? ⟨b, p + 1, none⟩ = some (bv x1)) (c2 : w.cell? ⟨b, p + 2, none⟩ = some (bv x2)) (c3 : w.cell? ⟨b, p + 3, none⟩ = some (bv x3)) :
    Calls Tryd.prog 95 #[.slice (some ⟨b, p, none⟩) n c] w fun e w' => e = .returned (.int .u32 (wz (leOf x0 x1 x2 x3))) ∧ w.grownBy w' none := by
  obtain ⟨n0, hn0⟩ : ∃ n, n = x0.toNat := ⟨_, rfl⟩
  obtain ⟨n1, hn1⟩ : ∃ n, n = x1.toNat := ⟨_, rfl⟩
  obtain ⟨n2, hn2⟩ : ∃ n, n = x2.toNat := ⟨_, rfl⟩
  obtain ⟨n3, hn3⟩ : ∃ n, n = x3.toNat := ⟨_, rfl⟩
  have l0 : n0 < 256 := by rw [hn0]; exact x0.toNat_lt
  have l1 : n1 < 256 := by rw [hn1]; exact x1.toNat_lt
  have l2 : n2 < 256 := by rw [hn2]; exact x2.toNat_lt
  have l3 : n3 < 256 := by rw [hn3]; exact x3.toNat_lt
  unfold bv at c0 c1 c2 c3
  rw [← hn0] at c0
  rw [← hn1] at c1
  rw [← hn2] at c2
  rw [← hn3] at c3
  have hx : ((n0 + n1 * 256 + n2 * 65536 + n3 * 16777216 : Nat) : Int) = wz (leOf x0 x1 x2 x3) := by rw [wz_leOf, hn0, hn1, hn2, hn3]
  obtain ⟨z, hz⟩ : ∃ z, z = leOf x0 x1 x2 x3 := ⟨_, rfl⟩
  rw [← hz] at hx ⊢
  have HX := hide hx
  clear hx hz hn0 hn1 hn2 hn3
  have q0 : (0 : Int) < (n : Int) := by omega
  have q1 : (1 : Int) < (n : Int) := by omega
  have q2 : (2 : Int) < (n : Int) := by omega
  have q3 : (3 : Int) < (n : Int) := by omega
  go_enter Tryd.func95, Tryd.ntmps95
  go_wp2
  go_quiet (fail)
  go_wp2
  go_ret
  rw [le_word4 n0 n1 n2 n3 l0 l1 l2 l3, unhide HX]
  exact ⟨rfl, gb_drewN (gb_refl _ _) _⟩

theorem le4_at (x : W) (k : Nat) (h : k < (le4 x).length) : Value.int .u8 (wz x / 2 ^ (8 * k) % 256) = bv (le4 x)[k] := by
  unfold bv wz
  rw [le4_get, UInt8.toNat_ofNat']
  congr 1

set_option maxRecDepth 100000 in
set_option maxHeartbeats 400000 in
theorem layWord_any (w : World) (b p c : Nat) (x : W) (ht : w.there b p 4) :
    Calls Tryd.prog 71 #[.slice (some ⟨b, p, none⟩) 4 c, .int .u32 (wz x)] w fun e w' => e = .returned (.tuple #[]) ∧ w' = w.setCells b p ((le4 x).map bv) := by
  go_enter Tryd.func71, Tryd.ntmps71
  go_wp2
  go_loopw [7] (fun i wr => ∃ k : Nat, k ≤ 4 ∧ i = .int .i64 k ∧ wr = w.setCells b p (((le4 x).take k).map bv)) (fun i _ => 4 - (intOf i).toNat)
  case atStart => exact ⟨0, Nat.zero_le _, rfl, rfl⟩
  case round =>
    obtain ⟨k, hk, rfl, rfl⟩ := hrel
    by_cases hlt : k < 4
    · have hlen : (le4 x).length = 4 := le4_length x
      have hbk : k < (le4 x).length := by omega
      obtain ⟨wq, hwq⟩ : ∃ wq, wq = w.setCells b p (((le4 x).take k).map bv) := ⟨_, rfl⟩
      rw [← hwq]
      have hth := World.there_setCells ht b p (((le4 x).take k).map bv) k hlt
      rw [← hwq] at hth
      obtain ⟨hcs, hcf⟩ := hth
      obtain ⟨ov, hcs⟩ := Option.isSome_iff_exists.1 hcs
      have HW := hide hwq
      have HL := hide hlen
      have hq1 : (k : Int) < 4 := by omega
      clear hwq hlen
      go_wp2
      go_roundw
      case rel =>
        refine ⟨k + 1, by omega, by go_num, ?_⟩
        rw [le4_at x k hbk, unhide HW]
        have hl2 : (((le4 x).take k).map bv).length = k := by simp [unhide HL]; omega
        have := setCells_snoc b (bv (le4 x)[k]) (((le4 x).take k).map bv) p w
        rw [hl2] at this
        rw [this, take_snoc hbk, List.map_append]
        rfl
      case measure => simp [intOf]; omega
    · obtain rfl : k = 4 := by omega
      go_wp2
      go_end0
      rw [List.take_of_length_le (by simp [le4_length])]
      exact ⟨rfl, rfl⟩

/-- What is behind a place of an array in memory. -/
theorem Blk.byte {w : World} {b : Nat} {t : TypeId} {l : List UInt8} (h : Blk w b t (l.map bv)) (i : Nat) (hi : i < l.length) : w.cell? ⟨b, i, none⟩ = some (bv (l.getD i 0)) := by
  rw [h.cell, List.getElem?_map, List.getElem?_eq_getElem hi, show l.getD i 0 = l[i] by simp [List.getD, hi]]
  rfl

theorem zero16w (w : World) : (zeroValue 126).run Tryd.prog w = .ok (.agg ((List.replicate 16 (0 : W)).map wv).toArray) w := by kernel_rfl

theorem firstL_lo (k n : List UInt8) (c : W) (i : Nat) (hi : i < 4) : (firstL k n c).getD i 0 = Fw.getD i 0 := by
  rw [firstL, List.getD, List.getElem?_append_left (by exact hi)]; rfl
theorem firstL_key (k n : List UInt8) (c : W) (i : Nat) (hi : i < 8) : (firstL k n c).getD (4 + i) 0 = leAt k i := by
  rw [firstL, List.getD, List.getElem?_append_right (by simp [Fw]), show 4 + i - Fw.length = i by simp [Fw], List.getElem?_append_left (by simpa using hi)]
  simp [hi]
theorem firstL_count (k n : List UInt8) (c : W) : (firstL k n c).getD 12 0 = c := by
  rfl
theorem firstL_nonce (k n : List UInt8) (c : W) (i : Nat) (hi : i < 3) : (firstL k n c).getD (13 + i) 0 = leAt n i := by
  rw [firstL, List.getD, List.getElem?_append_right (by simp [Fw]; omega), show 13 + i - Fw.length = 9 + i by simp [Fw]; omega, List.getElem?_append_right (by simp; omega), show 9 + i - ((List.range 8).map (leAt k)).length = 1 + i by simp; omega, List.getElem?_append_right (by simp), show 1 + i - [c].length = i by simp]
  simp [hi]

theorem first_step (k n : List UInt8) (c : W) (i : Nat) (hi : i < 16) (x : W) (hx : (firstL k n c).getD i 0 = x) : ((((firstL k n c).take i ++ List.replicate (16 - i) 0).map wv).set i (wv x)) = ((firstL k n c).take (i + 1) ++ List.replicate (16 - (i + 1)) 0).map wv := by
  have hl : i < (firstL k n c).length := by rw [firstL_length]; exact hi
  exact fill_step (firstL k n c) 16 i x hl (by rw [← hx]; simp [List.getD, hl]) hi

end Go.Proofs.YtjckdgapefaokaaDoor

/- A box in memory, in words of our own; what a call may have changed of three blocks; and what outlasts that. No condition but those that each lemma names. -/
namespace Go.Proofs.YtjckdgapefaokaaDoor
open Go.RowKit

/-- Only new memory, and the blocks b, s and m. -/
structure By3 (w a : World) (b s m : Nat) : Prop where
  os : a.os = w.os
  tape : a.tape = w.tape
  output : a.output = w.output
  size : w.heap.size ≤ a.heap.size
  block : ∀ k, k < w.heap.size → k ≠ b → k ≠ s → k ≠ m → a.heap[k]? = w.heap[k]?

theorem By3.refl (w : World) (b s m : Nat) : By3 w w b s m := ⟨rfl, rfl, rfl, Nat.le_refl _, fun _ _ _ _ _ => rfl⟩

theorem By3.by {w a c : World} {b s m : Nat} {r : Option Nat} (h : By3 w a b s m) (g : a.grownBy c r) (hr : ∀ x, r = some x → w.heap.size ≤ x ∨ x = b ∨ x = s ∨ x = m) : By3 w c b s m :=
  ⟨g.os.trans h.os, g.tape.trans h.tape, g.output.trans h.output, Nat.le_trans h.size g.size, fun k hk h1 h2 h3 => by
    rw [g.block k (Nat.lt_of_lt_of_le hk h.size) (fun e => by rcases hr k e.symm with h4 | h4 | h4 | h4 <;> omega), h.block k hk h1 h2 h3]⟩

theorem By3.none {w a c : World} {b s m : Nat} (h : By3 w a b s m) (g : a.grownBy c Option.none) : By3 w c b s m := h.by g (fun _ e => by cases e)

theorem By3.trans {w a c : World} {b s m : Nat} (h : By3 w a b s m) (g : By3 a c b s m) : By3 w c b s m :=
  ⟨g.os.trans h.os, g.tape.trans h.tape, g.output.trans h.output, Nat.le_trans h.size g.size, fun k hk h1 h2 h3 => by
    rw [g.block k (Nat.lt_of_lt_of_le hk h.size) h1 h2 h3, h.block k hk h1 h2 h3]⟩

theorem by3_gb {u w a : World} {b s m : Nat} (g : u.grownBy w none) (h : By3 w a b s m) (hb : u.heap.size ≤ b) (hs : u.heap.size ≤ s) (hm : u.heap.size ≤ m) : u.grownBy a none :=
  ⟨h.os.trans g.os, h.tape.trans g.tape, h.output.trans g.output, Nat.le_trans g.size h.size, fun k hk _ => by
    rw [h.block k (Nat.lt_of_lt_of_le hk g.size) (by omega) (by omega) (by omega), g.block k hk (by simp)]⟩

/-- A key of 32 bytes; of none: zeros. -/
def padK (k : List UInt8) : List UInt8 := k ++ List.replicate (32 - k.length) 0
theorem padK_length {k : List UInt8} (h : k.length ≤ 32) : (padK k).length = 32 := by simp [padK]; omega
theorem padK_full {k : List UInt8} (h : k.length = 32) : padK k = k := by simp [padK, h]
theorem padK_nil : padK [] = List.replicate 32 0 := rfl

/-- The cells of what a sealed text is opened to: its key, what was beside it, the text. -/
def contC (x : Ent) : List Value := (padK x.k).map bv ++ [.string (str x.be), .string (str x.tx)]
def contV (x : Ent) : Value := .agg (contC x).toArray

theorem contC_length (x : Ent) (h : x.k.length ≤ 32) : (contC x).length = 34 := by simp [contC, padK_length h]
theorem contC_one (x : Ent) : ∀ v ∈ contC x, v.oneCell' = true := by
  intro v hv
  rcases List.mem_append.1 hv with h | h
  · exact bv_one _ v h
  · simp at h
    rcases h with rfl | rfl <;> rfl

/-- The cells of a box. -/
def boxC (B : BoxS) (bs bm : Nat) : List Value := [.int .i64 (B.mode : Int), .pointer (some ⟨bs, 0, none⟩), .map (some bm), .int .i64 (B.L.length : Int)]

/-- The block bb is a box, with its source and its map; all of them new since u. -/
structure BoxAt (u w : World) (bb bs bm : Nat) (B : BoxS) : Prop where
  nb : u.heap.size ≤ bb
  ns : u.heap.size ≤ bs
  nm : u.heap.size ≤ bm
  blk : Blk w bb 58 (boxC B bs bm)
  src : SrcAt w bs B.T B.u
  map : MapOk contV w bm B.L

/-- What a box keeps to. -/
structure BoxS.Ok (B : BoxS) : Prop where
  mode : B.mode = 0 ∨ B.mode = 1
  real : B.mode = 0 → ∀ x ∈ B.L, x.k = [] ∧ x.be = [] ∧ x.tx = []
  apart : B.mode = 1 → B.ss.Nodup
  keys : B.mode = 1 → ∀ x ∈ B.L, x.k.length = 32

theorem BoxAt.cell {u w : World} {bb bs bm : Nat} {B : BoxS} (h : BoxAt u w bb bs bm B) : w.cell? ⟨bb, 0, none⟩ = some (.int .i64 (B.mode : Int)) ∧ w.cell? ⟨bb, 1, none⟩ = some (.pointer (some ⟨bs, 0, none⟩)) ∧ w.cell? ⟨bb, 2, none⟩ = some (.map (some bm)) ∧ w.cell? ⟨bb, 3, none⟩ = some (.int .i64 (B.L.length : Int)) :=
  ⟨by rw [h.blk.cell]; rfl, by rw [h.blk.cell]; rfl, by rw [h.blk.cell]; rfl, by rw [h.blk.cell]; rfl⟩

theorem blk_ne {w : World} {b c : Nat} {t t' : TypeId} {x y : List Value} (h : Blk w b t x) (k : Blk w c t' y) (ht : t ≠ t') : b ≠ c := by
  rintro rfl
  unfold Blk at h k
  rw [h] at k
  injection k with k
  injection k with _ k
  exact ht k

theorem BoxAt.bs_ne {u w : World} {bb bs bm : Nat} {B : BoxS} (h : BoxAt u w bb bs bm B) : bb ≠ bs := blk_ne h.blk h.src.blk (by decide)

theorem Blk.by3 {w a : World} {p b s m : Nat} {t : TypeId} {cs : List Value} (h : Blk w p t cs) (g : By3 w a b s m) (h1 : p ≠ b) (h2 : p ≠ s) (h3 : p ≠ m) : Blk a p t cs := by
  unfold Blk; rw [g.block p h.lt h1 h2 h3]; exact h

/-- Another box stays as it is. -/
theorem BoxAt.other {u v w a : World} {cb cs cm bb bs bm : Nat} {C B : BoxS} (h : BoxAt u w cb cs cm C) (hB : BoxAt v w bb bs bm B) (g : By3 w a bb bs bm) (h1 : cb ≠ bb) (h2 : cs ≠ bs) (h3 : cm ≠ bm) : BoxAt u a cb cs cm C :=
  ⟨h.nb, h.ns, h.nm, h.blk.by3 g h1 (blk_ne h.blk hB.src.blk (by decide)) (fun e => hB.map.blk h.blk e.symm), ⟨h.src.blk.by3 g (blk_ne h.src.blk hB.blk (by decide)) h2 (fun e => hB.map.blk h.src.blk e.symm), h.src.glb⟩,
    h.map.same (g.block cm h.map.lt (h.map.blk hB.blk) (h.map.blk hB.src.blk) h3)⟩

theorem BoxAt.none {u w a : World} {bb bs bm : Nat} {B : BoxS} (h : BoxAt u w bb bs bm B) (g : w.grownBy a Option.none) : BoxAt u a bb bs bm B :=
  ⟨h.nb, h.ns, h.nm, h.blk.kept g (by simp), h.src.kept g (by simp), h.map.kept g (by simp)⟩

/-- .. and so where a row of bytes of the law's own was written. -/
theorem BoxAt.own {u w a : World} {bb bs bm base n : Nat} {B : BoxS} {v : Value} {xs : List Value} (h : BoxAt u w bb bs bm B) (hown : w.ownsRow base 5 1 v n xs) (g : w.grownBy a v.ownBlock) : BoxAt u a bb bs bm B :=
  ⟨h.nb, h.ns, h.nm, h.blk.kept g (own_apart hown h.blk (by decide)), h.src.own hown g, h.map.kept g (by
    rcases hown.2 with ⟨rfl, _⟩ | ⟨p, cap, cur, rfl, _, hh, _⟩
    · intro e; cases e
    · intro e
      have e2 : bm = p := by simpa [Value.ownBlock] using e
      subst e2
      exact h.map.typ ⟨cur, _, hh⟩)⟩

/-- Bytes outlast what a box does. -/
theorem BtT.box {u w a : World} {ao : Option Addr} {c bb bs bm : Nat} {l : List UInt8} {B : BoxS} (h : BtT w ao c l) (hB : BoxAt u w bb bs bm B) (g : By3 w a bb bs bm) : BtT a ao c l := by
  have hne : ∀ ad, ao = some ad → ad.block < w.heap.size ∧ ad.block ≠ bb ∧ ad.block ≠ bs ∧ ad.block ≠ bm := fun ad e =>
    ⟨(h.typ ad e).lt, fun e2 => hB.blk.typ (by decide) (by rw [← e2]; exact h.typ ad e), fun e2 => hB.src.blk.typ (by decide) (by rw [← e2]; exact h.typ ad e), fun e2 => hB.map.typ (by rw [← e2]; exact h.typ ad e)⟩
  have hblk : ∀ ad, ao = some ad → a.heap[ad.block]? = w.heap[ad.block]? := fun ad e => by
    obtain ⟨h1, h2, h3, h4⟩ := hne ad e
    exact g.block _ h1 h2 h3 h4
  refine ⟨⟨h.bts.zip, h.bts.fits, h.bts.most, h.bts.shape, fun ad e i hi => ?_⟩, fun ad e => ?_⟩
  · have := h.bts.cell ad e i hi
    rw [World.cell?_of_block (w := w) (w' := a) (a := ⟨ad.block, ad.off + i, Option.none⟩) (hblk ad e)]
    exact this
  · obtain ⟨cur, m, hh⟩ := h.typ ad e
    exact ⟨cur, m, by rw [hblk ad e]; exact hh⟩

/-- Bytes that were there before the box was made. -/
theorem Bts.old {u w : World} {ao : Option Addr} {c : Nat} {l : List UInt8} (h : Bts u ao c l) (g : u.grownBy w Option.none) : Bts w ao c l := h.kept g (fun _ e => by cases e)

theorem own_by3 {u w a : World} {bb bs bm base n : Nat} {B : BoxS} {v : Value} {xs : List Value} (hown : w.ownsRow base 5 1 v n xs) (hB : BoxAt u w bb bs bm B) (g : By3 w a bb bs bm) : a.ownsRow base 5 1 v n xs := by
  refine ⟨hown.1, ?_⟩
  rcases hown.2 with ⟨h1, h2⟩ | ⟨p, cap, cur, hv, hg, hh, hr⟩
  · exact Or.inl ⟨h1, h2⟩
  · have ht : Typ w p := ⟨cur, _, hh⟩
    exact Or.inr ⟨p, cap, cur, hv, hg, by
      rw [g.block p ht.lt (fun e => hB.blk.typ (by decide) (by rw [← e]; exact ht)) (fun e => hB.src.blk.typ (by decide) (by rw [← e]; exact ht)) (fun e => hB.map.typ (by rw [← e]; exact ht))]; exact hh, hr⟩

theorem known_first (B : BoxS) (s : List UInt8) : B.known s = (firstOf B.L s).isSome := by rw [firstOf_known]; rfl

theorem BoxS.Ok.seal {B : BoxS} (h : B.Ok) (k be tx : List UInt8) (hk : k.length = 32) : (B.seal k be tx).1.Ok := by
  rcases h.mode with hm | hm
  · unfold BoxS.seal
    rw [if_pos hm]
    refine ⟨Or.inl hm, fun _ x hx => ?_, fun e => absurd (hm.symm.trans e) (by omega), fun e => absurd (hm.symm.trans e) (by omega)⟩
    rcases List.mem_append.1 hx with hx | hx
    · exact h.real hm x hx
    · rw [List.mem_singleton.1 hx]; exact ⟨rfl, rfl, rfl⟩
  · unfold BoxS.seal
    rw [if_neg (by omega)]
    have hkeys : ∀ (n : Nat) (b : BoxS), (∀ x ∈ b.L, x.k.length = 32) → ∀ x ∈ (b.tries k be tx n).1.L, x.k.length = 32 := by
      intro n
      induction n with
      | zero => exact fun b hb => hb
      | succ n ih =>
        intro b hb
        unfold BoxS.tries
        split
        · exact ih _ hb
        · intro x hx
          rcases List.mem_append.1 hx with hx | hx
          · exact hb x hx
          · rw [List.mem_singleton.1 hx]; exact hk
    have h1 := BoxS.tries_kept k be tx 8 B
    exact ⟨Or.inr (h1.1.trans hm), fun e => absurd (h1.1.symm.trans e) (by omega), fun _ => BoxS.tries_nodup k be tx 8 B (h.apart hm), fun _ => hkeys 8 B (h.keys hm)⟩

end Go.Proofs.YtjckdgapefaokaaDoor
