/- What kdf's masked and Equal answer. No condition but those that each lemma names. -/
import Derived.Test.YtfkcggfffbpbnaaDoorSHash
import Derived.Test.YtfkcggfffbpbnaaDoorKMath
namespace Go.Proofs.YtfkcggfffbpbnaaDoor
open Go.RowKit

theorem b_xor (x y : UInt8) : bits .xor .u8 ((x.toNat : Nat) : Int) ((y.toNat : Nat) : Int) = (((x ^^^ y).toNat : Nat) : Int) := by
  rw [u8_xor_nat _ _ x.toNat_lt y.toNat_lt, UInt8.toNat_xor]
theorem b_or (x y : UInt8) : bits .or .u8 ((x.toNat : Nat) : Int) ((y.toNat : Nat) : Int) = (((x ||| y).toNat : Nat) : Int) := by
  rw [u8_or_nat _ _ x.toNat_lt y.toNat_lt, UInt8.toNat_or]

theorem zero64 (w : World) : (zeroValue 52).run Tryd.prog w = .ok (.agg ((List.replicate 64 (0 : UInt8)).map bv).toArray) w := by kernel_rfl
theorem zero32 (w : World) : (zeroValue 23).run Tryd.prog w = .ok (.agg ((List.replicate 32 (0 : UInt8)).map bv).toArray) w := by kernel_rfl

theorem mask_step (m : UInt8) (l : List UInt8) (k : Nat) (hk : k < l.length) : (((maskL m l).take k ++ l.drop k).map bv).set k (bv (l[k] ^^^ m)) = ((maskL m l).take (k + 1) ++ l.drop (k + 1)).map bv := by
  have hz : k < (maskL m l).length := by rw [maskL_length]; exact hk
  rw [← List.map_set, List.take_succ_eq_append_getElem hz, List.set_append_right _ _ (by simp; omega)]
  have : k - ((maskL m l).take k).length = 0 := by simp [maskL_length]; omega
  rw [this, List.drop_eq_getElem_cons hk, List.append_assoc, List.set_cons_zero]
  simp [maskL]

set_option maxRecDepth 100000 in
set_option maxHeartbeats 1000000 in
theorem masked_any (w : World) (l : List UInt8) (m : UInt8) (hl : l.length = 64) :
    Calls Tryd.prog 27 #[.agg (l.map bv).toArray, .int .u8 ((m.toNat : Nat) : Int)] w fun e w' => e = .returned (.agg ((maskL m l).map bv).toArray) ∧ w.grownBy w' none := by
  obtain ⟨Z, hZ⟩ : ∃ Z : Array Value, Z = ((List.replicate 64 (0 : UInt8)).map bv).toArray := ⟨_, rfl⟩
  have hzv := zero64
  rw [← hZ] at hzv
  obtain ⟨A, hA⟩ : ∃ A : Array Value, A = (l.map bv).toArray := ⟨_, rfl⟩
  rw [← hA]
  have HZ := hide hZ
  have HA := hide hA
  have HL := hide hl
  clear hZ hA hl
  go_enter Tryd.func27, Tryd.ntmps27
  go_wp2
  go_loopw [6] (fun i wr => ∃ k : Nat, k ≤ 64 ∧ i = .int .i64 k ∧ Blk wr w.heap.size 52 (((maskL m l).take k ++ l.drop k).map bv) ∧ Blk wr (w.heap.size + 1) 52 ((List.replicate 64 (0 : UInt8)).map bv) ∧ w.grownBy wr none) (fun i _ => 64 - (intOf i).toNat)
  case atStart =>
    refine ⟨0, Nat.zero_le _, rfl, ?_, ?_, gb_alloc (gb_alloc (gb_refl _ _) _) _⟩
    · rw [unhide HA]
      simpa using (Blk.new w 52 (l.map bv)).alloc _
    · have := Blk.new (w.alloc (.cells A 52)) 52 ((List.replicate 64 (0 : UInt8)).map bv)
      rw [World.size_alloc] at this
      rw [unhide HZ]
      exact this
  case round =>
    obtain ⟨k, hk, rfl, hB, hR, hg⟩ := hrel
    by_cases hlt : k < 64
    · have hkl : k < l.length := by rw [unhide HL]; exact hlt
      obtain ⟨x, hx⟩ : ∃ x, x = l[k] := ⟨_, rfl⟩
      have hcc : wr.cell? ⟨w.heap.size, k, none⟩ = some (.int .u8 ((x.toNat : Nat) : Int)) := by
        have hll : ((maskL m l).take k).length = k := by simp [maskL_length]; omega
        rw [hB.cell, List.getElem?_map, List.getElem?_append_right (by omega), hll, Nat.sub_self, List.getElem?_drop, Nat.add_zero, List.getElem?_eq_getElem hkl, hx]
        rfl
      have hfz := hB.fz k
      have hxr := b_xor x m
      have hq0 : (0 : Int) ≤ (k : Int) := by omega
      have hq1 : (k : Int) < 64 := by omega
      have HX := hide hx
      have HB := hide hB
      have HR := hide hR
      clear hx hB hR
      go_wp2
      go_roundw
      case rel =>
        have hS := (unhide HB).set k (bv (x ^^^ m))
        rw [unhide HX, mask_step m l k hkl] at hS
        rw [unhide HX]
        exact ⟨k + 1, by omega, by go_num, hS, (unhide HR).other _ _ (by simp), gb_setCell hg _ _ (Or.inl (Nat.le_refl _))⟩
      case measure => simp [intOf]; omega
    · obtain rfl : k = 64 := by omega
      rw [show l.drop 64 = [] by rw [List.drop_eq_nil_of_le]; rw [unhide HL]; exact Nat.le_refl _, List.append_nil, List.take_of_length_le (by rw [maskL_length, unhide HL]; exact Nat.le_refl _)] at hB
      have hi64 : (Tryd.prog.info? 52).map (·.size) = some 64 := by kernel_rfl
      have hsz : (((maskL m l).map bv).toArray).size = 64 := by simp [maskL_length, unhide HL]
      have HSZ := hide hsz
      clear hsz
      go_wp2_with (first | (refine wpList_load_row rfl 52 _ rfl w.heap.size rfl _ _ _ _ hB Tryd.underlying52 rfl ?_ ?_; (rw [unhide HSZ]; exact hi64)) | (refine wpList_store_row rfl 52 _ _ rfl (w.heap.size + 1) _ rfl rfl _ _ hR ?_ ?_ ?_ ?_; (rw [unhide HSZ]; exact hi64); (rw [unhide HSZ]; rfl); (exact all_oneCell_toArray (bv_one _))))
      have hS := hR.row ((maskL m l).map bv)
      have hG : w.grownBy (wr.setRow (w.heap.size + 1) ((maskL m l).map bv).toArray) none := gb_row hg _ (Or.inl (by omega))
      refine bodyPost_ret (v := .agg ((maskL m l).map bv).toArray) (results_cell_row (g := w.heap.size + 1) rfl _ _ _ _ _ _ ?_ hS Tryd.underlying52 rfl ?_) rfl ⟨rfl, hG⟩
      · rfl
      · rw [unhide HSZ]; exact hi64

theorem u_or_zero (u v : UInt8) : (u ||| v = 0) ↔ (u = 0 ∧ v = 0) := by
  constructor
  · intro h
    have h1 : (u ||| v).toBitVec = 0 := by rw [h]; rfl
    rw [UInt8.toBitVec_or] at h1
    have h2 := BitVec.or_eq_zero_iff.1 h1
    exact ⟨UInt8.toBitVec_inj.1 h2.1, UInt8.toBitVec_inj.1 h2.2⟩
  · rintro ⟨rfl, rfl⟩; rfl
theorem u_xor_zero (x y : UInt8) : (x ^^^ y = 0) ↔ x = y := UInt8.xor_eq_zero_iff

theorem take_eq_step {a b : List UInt8} {k : Nat} (ha : k < a.length) (hb : k < b.length) : (a.take (k + 1) = b.take (k + 1)) ↔ (a.take k = b.take k ∧ a[k] = b[k]) := by
  rw [take_snoc ha, take_snoc hb]
  constructor
  · intro h
    have := List.append_inj h (by simp; omega)
    exact ⟨this.1, by simpa using this.2⟩
  · rintro ⟨h1, h2⟩; rw [h1, h2]

set_option maxRecDepth 100000 in
theorem equal_any (w : World) (ao bo : Option Addr) (ca cb : Nat) (a b : List UInt8) (ha : Bts w ao ca a) (hb : Bts w bo cb b) :
    Calls Tryd.prog 21 #[.slice ao a.length ca, .slice bo b.length cb] w fun e w' => e = .returned (.bool (decide (a = b))) ∧ w' = w := by
  by_cases hl : a.length = b.length
  · have hm : a.length ≤ 9223372036854775807 := Nat.le_trans ha.fits ha.most
    obtain ⟨n, hn⟩ : ∃ n, n = a.length := ⟨_, rfl⟩
    rw [← hn] at hl
    rw [← hl, ← hn]
    have HL := hide hl
    have HN := hide hn
    rw [← hn] at hm
    clear hl hn
    go_enter Tryd.func21, Tryd.ntmps21
    go_wp2
    go_loopw [5, 15] (fun uv i wr => ∃ (k : Nat) (u : UInt8), k ≤ n ∧ i = .int .i64 k ∧ uv = .int .u8 ((u.toNat : Nat) : Int) ∧ (u = 0 ↔ a.take k = b.take k) ∧ wr = w) (fun _ i _ => n - (intOf i).toNat)
    case atStart => exact ⟨0, 0, Nat.zero_le _, rfl, rfl, by simp, rfl⟩
    case round =>
      obtain ⟨k, u, hk, rfl, rfl, hu, rfl⟩ := hrel
      have HU := hide hu
      clear hu
      by_cases hlt : k < n
      · have hka : k < a.length := by rw [← unhide HN]; exact hlt
        have hkb : k < b.length := by rw [← unhide HL]; exact hlt
        obtain ⟨ad, rfl⟩ : ∃ ad, ao = some ad := by
          cases ao with
          | none => have := ha.zip rfl; omega
          | some ad => exact ⟨ad, rfl⟩
        obtain ⟨bd, rfl⟩ : ∃ bd, bo = some bd := by
          cases bo with
          | none => have := hb.zip rfl; omega
          | some bd => exact ⟨bd, rfl⟩
        have hca := ha.cell ad rfl k hka
        have hcb := hb.cell bd rfl k hkb
        have hsa := ha.shape ad rfl (by omega)
        have hsb := hb.shape bd rfl (by omega)
        obtain ⟨ab, aoff, asp⟩ := ad
        obtain ⟨bb, boff, bsp⟩ := bd
        simp only at hsa hsb hca hcb
        subst hsa hsb
        obtain ⟨x, hx⟩ : ∃ x, x = a[k] := ⟨_, rfl⟩
        obtain ⟨y, hy⟩ : ∃ y, y = b[k] := ⟨_, rfl⟩
        rw [← hx] at hca
        rw [← hy] at hcb
        obtain ⟨z, hz⟩ : ∃ z, z = x ^^^ y := ⟨_, rfl⟩
        obtain ⟨v, hv⟩ : ∃ v, v = u ||| z := ⟨_, rfl⟩
        have hxr := b_xor x y
        rw [← hz] at hxr
        have hor := b_or u z
        rw [← hv] at hor
        have HV := hide hv
        have HZ := hide hz
        clear hv hz
        have hq0 : (0 : Int) ≤ (k : Int) := by omega
        have HX := hide hx
        have HY := hide hy
        clear hx hy ha hb
        go_wp2
        go_roundw
        case rel =>
          refine ⟨k + 1, v, by omega, by go_num, rfl, ?_, trivial⟩
          rw [unhide HV, unhide HZ, u_or_zero, u_xor_zero, unhide HU, take_eq_step hka hkb, ← unhide HX, ← unhide HY]
        case measure => simp [intOf]; omega
      · obtain rfl : k = n := by omega
        have hfin : u = 0 ↔ a = b := by
          rw [unhide HU, List.take_of_length_le (by rw [← unhide HN]; exact Nat.le_refl _), List.take_of_length_le (by rw [← unhide HL]; exact Nat.le_refl _)]
        by_cases h0 : u = 0
        · subst h0
          have HAB := hide (hfin.1 rfl)
          clear hfin HU
          rw [show (((0 : UInt8).toNat : Nat) : Int) = 0 from rfl]
          go_wp2
          go_ret
          exact ⟨by rw [decide_eq_true (unhide HAB)]; rfl, rfl⟩
        · have hne : ¬ a = b := fun e => h0 (hfin.2 e)
          have hz : ((u.toNat : Nat) : Int) ≠ 0 := fun e => h0 (by
            have : u.toNat = 0 := by omega
            exact UInt8.toNat_inj.1 (by simpa using this))
          have hz2 : (((u.toNat : Nat) : Int) == 0) = false := by simpa using hz
          have HNE := hide hne
          clear hfin HU hne hz h0
          go_wp2
          go_ret
          exact ⟨by rw [decide_eq_false (unhide HNE)]; rfl, rfl⟩
  · have h1 : ¬ ((a.length : Int) = (b.length : Int)) := by omega
    have h2 : ((a.length : Int) == (b.length : Int)) = false := by simpa using h1
    have h3 : ((a.length : Int) != (b.length : Int)) = true := by simpa using h1
    have hne : ¬ a = b := fun e => hl (by rw [e])
    go_enter Tryd.func21, Tryd.ntmps21
    go_wp2
    go_ret
    exact ⟨by rw [decide_eq_false hne]; rfl, rfl⟩

end Go.Proofs.YtfkcggfffbpbnaaDoor
