/- Bytes, as a walk spells them. No condition but those that each lemma names. -/
import Derived.Test.YtjckdgapefaokaaDoorBMap
import Derived.Laws.BitsAllLaws
import Derived.Test.YtjckdgapefaokaaDoorBDraw
namespace Go.Proofs.YtjckdgapefaokaaDoor
open Go.RowKit

theorem b_xor (x y : UInt8) : bits .xor .u8 ((x.toNat : Nat) : Int) ((y.toNat : Nat) : Int) = (((x ^^^ y).toNat : Nat) : Int) := by
  rw [u8_xor_nat _ _ x.toNat_lt y.toNat_lt, UInt8.toNat_xor]
theorem b_or (x y : UInt8) : bits .or .u8 ((x.toNat : Nat) : Int) ((y.toNat : Nat) : Int) = (((x ||| y).toNat : Nat) : Int) := by
  rw [u8_or_nat _ _ x.toNat_lt y.toNat_lt, UInt8.toNat_or]

end Go.Proofs.YtjckdgapefaokaaDoor

/- What kdf's Equal answers. No condition but those that each lemma names. -/
namespace Go.Proofs.YtjckdgapefaokaaDoor
open Go.RowKit

theorem u_or_zero (u v : UInt8) : (u ||| v = 0) ↔ (u = 0 ∧ v = 0) := by
  constructor
  · intro h
    have h1 : (u ||| v).toBitVec = 0 := by rw [h]; rfl
    rw [UInt8.toBitVec_or] at h1
    have h2 := BitVec.or_eq_zero_iff.1 h1
    exact ⟨UInt8.toBitVec_inj.1 h2.1, UInt8.toBitVec_inj.1 h2.2⟩
  · rintro ⟨rfl, rfl⟩; rfl
theorem u_xor_zero (x y : UInt8) : (x ^^^ y = 0) ↔ x = y := UInt8.xor_eq_zero_iff

theorem take_eq_step {a b : List UInt8} {k : Nat} (ha : k < a.length) (hb : k < b.length) : (a.take (k + 1) = b.take (k + 1)) ↔ (a.take k = b.take k ∧ a[k] = b[k]) := by
  rw [take_snoc ha, take_snoc hb]
  constructor
  · intro h
    have := List.append_inj h (by simp; omega)
    exact ⟨this.1, by simpa using this.2⟩
  · rintro ⟨h1, h2⟩; rw [h1, h2]

set_option maxRecDepth 100000 in
theorem equal_any (w : World) (ao bo : Option Addr) (ca cb : Nat) (a b : List UInt8) (ha : Bts w ao ca a) (hb : Bts w bo cb b) :
    Calls Tryd.prog 91 #[.slice ao a.length ca, .slice bo b.length cb] w fun e w' => e = .returned (.bool (decide (a = b))) ∧ w' = w := by
  by_cases hl : a.length = b.length
  · have hm : a.length ≤ 9223372036854775807 := Nat.le_trans ha.fits ha.most
    obtain ⟨n, hn⟩ : ∃ n, n = a.length := ⟨_, rfl⟩
    rw [← hn] at hl
    rw [← hl, ← hn]
    have HL := hide hl
    have HN := hide hn
    rw [← hn] at hm
    clear hl hn
    go_enter Tryd.func91, Tryd.ntmps91
    go_wp2
    go_loopw [5, 15] (fun uv i wr => ∃ (k : Nat) (u : UInt8), k ≤ n ∧ i = .int .i64 k ∧ uv = .int .u8 ((u.toNat : Nat) : Int) ∧ (u = 0 ↔ a.take k = b.take k) ∧ wr = w) (fun _ i _ => n - (intOf i).toNat)
    case atStart => exact ⟨0, 0, Nat.zero_le _, rfl, rfl, by simp, rfl⟩
    case round =>
      obtain ⟨k, u, hk, rfl, rfl, hu, rfl⟩ := hrel
      have HU := hide hu
      clear hu
      by_cases hlt : k < n
      · have hka : k < a.length := by rw [← unhide HN]; exact hlt
        have hkb : k < b.length := by rw [← unhide HL]; exact hlt
        obtain ⟨ad, rfl⟩ : ∃ ad, ao = some ad := by
          cases ao with
          | none => have := ha.zip rfl; omega
          | some ad => exact ⟨ad, rfl⟩
        obtain ⟨bd, rfl⟩ : ∃ bd, bo = some bd := by
          cases bo with
          | none => have := hb.zip rfl; omega
          | some bd => exact ⟨bd, rfl⟩
        have hca := ha.cell ad rfl k hka
        have hcb := hb.cell bd rfl k hkb
        have hsa := ha.shape ad rfl (by omega)
        have hsb := hb.shape bd rfl (by omega)
        obtain ⟨ab, aoff, asp⟩ := ad
        obtain ⟨bb, boff, bsp⟩ := bd
        simp only at hsa hsb hca hcb
        subst hsa hsb
        obtain ⟨x, hx⟩ : ∃ x, x = a[k] := ⟨_, rfl⟩
        obtain ⟨y, hy⟩ : ∃ y, y = b[k] := ⟨_, rfl⟩
        rw [← hx] at hca
        rw [← hy] at hcb
        obtain ⟨z, hz⟩ : ∃ z, z = x ^^^ y := ⟨_, rfl⟩
        obtain ⟨v, hv⟩ : ∃ v, v = u ||| z := ⟨_, rfl⟩
        have hxr := b_xor x y
        rw [← hz] at hxr
        have hor := b_or u z
        rw [← hv] at hor
        have HV := hide hv
        have HZ := hide hz
        clear hv hz
        have hq0 : (0 : Int) ≤ (k : Int) := by omega
        have HX := hide hx
        have HY := hide hy
        clear hx hy ha hb
        go_wp2
        go_roundw
        case rel =>
          refine ⟨k + 1, v, by omega, by go_num, rfl, ?_, trivial⟩
          rw [unhide HV, unhide HZ, u_or_zero, u_xor_zero, unhide HU, take_eq_step hka hkb, ← unhide HX, ← unhide HY]
        case measure => simp [intOf]; omega
      · obtain rfl : k = n := by omega
        have hfin : u = 0 ↔ a = b := by
          rw [unhide HU, List.take_of_length_le (by rw [← unhide HN]; exact Nat.le_refl _), List.take_of_length_le (by rw [← unhide HL]; exact Nat.le_refl _)]
        by_cases h0 : u = 0
        · subst h0
          have HAB := hide (hfin.1 rfl)
          clear hfin HU
          rw [show (((0 : UInt8).toNat : Nat) : Int) = 0 from rfl]
          go_wp2
          go_ret
          exact ⟨by rw [decide_eq_true (unhide HAB)]; rfl, rfl⟩
        · have hne : ¬ a = b := fun e => h0 (hfin.2 e)
          have hz : ((u.toNat : Nat) : Int) ≠ 0 := fun e => h0 (by
            have : u.toNat = 0 := by omega
            exact UInt8.toNat_inj.1 (by simpa using this))
          have hz2 : (((u.toNat : Nat) : Int) == 0) = false := by simpa using hz
          have HNE := hide hne
          clear hfin HU hne hz h0
          go_wp2
          go_ret
          exact ⟨by rw [decide_eq_false (unhide HNE)]; rfl, rfl⟩
  · have h1 : ¬ ((a.length : Int) = (b.length : Int)) := by omega
    have h2 : ((a.length : Int) == (b.length : Int)) = false := by simpa using h1
    have h3 : ((a.length : Int) != (b.length : Int)) = true := by simpa using h1
    have hne : ¬ a = b := fun e => hl (by rw [e])
    go_enter Tryd.func91, Tryd.ntmps91
    go_wp2
    go_ret
    exact ⟨by rw [decide_eq_false hne]; rfl, rfl⟩

end Go.Proofs.YtjckdgapefaokaaDoor

/- What parted and check answer, or throw. No condition but those that each lemma names. -/
namespace Go.Proofs.YtjckdgapefaokaaDoor
open Go.RowKit

set_option maxRecDepth 100000 in
set_option maxHeartbeats 1000000 in
theorem parted_short (w : World) (xo : Option Addr) (cx m : Nat) (hm : m < 16) :
    Calls Tryd.prog 66 #[.slice xo m cx] w fun e w' => (∃ s, e = .panicked [{ v := .iface 25 s, recovered := false }]) ∧ w.grownBy w' none := by
  have q3 : (m : Int) < 16 := by omega
  go_enter Tryd.func66, Tryd.ntmps66
  go_wp2
  exact ⟨rfl, ⟨_, rfl⟩, gb_refl _ _⟩

set_option maxRecDepth 100000 in
set_option maxHeartbeats 1000000 in
theorem parted_any (w : World) (xo : Option Addr) (cx a : Nat) (hc : a + 16 ≤ cx) (hb : a ≤ 100000) :
    Calls Tryd.prog 66 #[.slice xo (a + 16) cx] w fun e w' => e = .returned (.tuple #[.slice xo a cx, .slice (cutA xo cx a) 16 (cx - a)]) ∧ w.grownBy w' none := by
  obtain ⟨m, hm⟩ : ∃ m, m = a + 16 := ⟨_, rfl⟩
  have hto := fun W => slice_to (P := Tryd.prog) W 22 5 Tryd.underlying22 size_byte xo m cx a (by omega)
  have hfr := fun W => slice_from (P := Tryd.prog) W 22 5 Tryd.underlying22 size_byte xo m cx a (by omega)
  rw [show m - a = 16 by omega] at hfr
  have q3 : ¬ (m : Int) < 16 := by omega
  have q1 : (m : Int) - 16 = (a : Int) := by omega
  have q2 : IntKind.i64.wrap (a : Int) = (a : Int) := by rw [IntKind.wrap_i64]; omega
  rw [← hm]
  clear hm hc hb
  go_enter Tryd.func66, Tryd.ntmps66
  go_wp2
  go_quiet (fail)
  go_wp2
  go_ret2
  exact ⟨rfl, gb_drewN (gb_refl _ _) _⟩

set_option maxRecDepth 100000 in
set_option maxHeartbeats 1000000 in
theorem check_same (w : World) (T : List UInt8) (hT : T.length = 16) (ao : Option Addr) (c : Nat) (hy : Bts w ao c T) :
    Calls Tryd.prog 67 #[.agg (T.map bv).toArray, .slice ao 16 c] w fun e w' => e = .returned (.tuple #[]) ∧ w.grownBy w' none := by
  have hg1 := gb_alloc (gb_refl w none) (.cells (T.map bv).toArray 93)
  have hB1 := Blk.new w 93 (T.map bv)
  have he := equal_any _ (some ⟨w.heap.size, 0, none⟩) ao 16 c T T (blk_bytes hB1 16 (by omega) (by decide)) (hy.kept hg1 (fun _ e => by cases e))
  rw [hT, decide_eq_true rfl] at he
  have slT : ∀ (p : Nat) (W : World), (Instr.sliceAt 93 (.pointer (some ⟨p, 0, none⟩)) none none none).run Tryd.prog W = .ok (.slice (some ⟨p, 0, none⟩) 16 16) W := fun p W => slice_whole5 93 5 16 Tryd.underlying93 size_byte p 0 (by omega) W
  obtain ⟨TA, hTA⟩ : ∃ A : Array Value, A = (T.map bv).toArray := ⟨_, rfl⟩
  rw [← hTA] at he hg1 ⊢
  obtain ⟨W1, hW1⟩ : ∃ W1, W1 = w.alloc (.cells TA 93) := ⟨_, rfl⟩
  rw [← hW1] at he hg1
  have HW1 := hide hW1
  clear hTA hW1 hB1 hy hT
  go_enter Tryd.func67, Tryd.ntmps67
  go_wp2_with (go_at_call 91; rw [← unhide HW1]; refine he.mono ?_; rintro e w2 ⟨rfl, rfl⟩; clear he)
  go_end0
  exact ⟨rfl, hg1⟩

set_option maxRecDepth 100000 in
set_option maxHeartbeats 1000000 in
theorem check_other (w : World) (T y : List UInt8) (hT : T.length = 16) (ao : Option Addr) (c : Nat) (hy : Bts w ao c y) (hl : y.length = 16) (hne : T ≠ y) :
    Calls Tryd.prog 67 #[.agg (T.map bv).toArray, .slice ao 16 c] w fun e w' => (∃ s, e = .panicked [{ v := .iface 25 s, recovered := false }]) ∧ w.grownBy w' none := by
  have hg1 := gb_alloc (gb_refl w none) (.cells (T.map bv).toArray 93)
  have hB1 := Blk.new w 93 (T.map bv)
  have he := equal_any _ (some ⟨w.heap.size, 0, none⟩) ao 16 c T y (blk_bytes hB1 16 (by omega) (by decide)) (hy.kept hg1 (fun _ e => by cases e))
  rw [hT, hl, decide_eq_false hne] at he
  have slT : ∀ (p : Nat) (W : World), (Instr.sliceAt 93 (.pointer (some ⟨p, 0, none⟩)) none none none).run Tryd.prog W = .ok (.slice (some ⟨p, 0, none⟩) 16 16) W := fun p W => slice_whole5 93 5 16 Tryd.underlying93 size_byte p 0 (by omega) W
  obtain ⟨TA, hTA⟩ : ∃ A : Array Value, A = (T.map bv).toArray := ⟨_, rfl⟩
  rw [← hTA] at he hg1 ⊢
  obtain ⟨W1, hW1⟩ : ∃ W1, W1 = w.alloc (.cells TA 93) := ⟨_, rfl⟩
  rw [← hW1] at he hg1
  have HW1 := hide hW1
  clear hTA hW1 hB1 hy hT hl hne
  go_enter Tryd.func67, Tryd.ntmps67
  go_wp2_with (go_at_call 91; rw [← unhide HW1]; refine he.mono ?_; rintro e w2 ⟨rfl, rfl⟩; clear he)
  exact ⟨rfl, ⟨_, rfl⟩, hg1⟩

end Go.Proofs.YtjckdgapefaokaaDoor
