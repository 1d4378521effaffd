/- Words of 32 bits, as a walk spells them; and what the library's RotateLeft32 answers. No condition but those that each lemma names. -/
import Derived.Test.YtjckdgapefaokaaDoorKEqual
import Derived.Test.YtjckdgapefaokaaDoorPMath
import Derived.Laws.BitsAllLaws
import Derived.Laws.Bits64
import Derived.Laws.Unary
namespace Go.Proofs.YtjckdgapefaokaaDoor
open Go.RowKit

/-- A word as a number. -/
def wz (x : W) : Int := ((x.toNat : Nat) : Int)
/-- A word as a cell holds it. -/
def wv (x : W) : Value := .int .u32 (wz x)

theorem wz_lo (x : W) : 0 ≤ wz x := by unfold wz; omega
theorem wz_hi (x : W) : wz x < 4294967296 := by have := x.isLt; unfold wz; omega
theorem wz_toNat (x : W) : (wz x).toNat = x.toNat := by unfold wz; omega

theorem w_xor (x y : W) : bits .xor .u32 (wz x) (wz y) = wz (x ^^^ y) := by
  unfold wz; rw [u32_xor_nat _ _ x.isLt y.isLt, BitVec.toNat_xor]
theorem w_and (x y : W) : bits .and .u32 (wz x) (wz y) = wz (x &&& y) := by
  unfold wz; rw [u32_and_nat _ _ x.isLt y.isLt, BitVec.toNat_and]
theorem w_or (x y : W) : bits .or .u32 (wz x) (wz y) = wz (x ||| y) := by
  unfold wz; rw [u32_or_nat _ _ x.isLt y.isLt, BitVec.toNat_or]
theorem w_addm (x y : W) : (wz x + wz y) % 4294967296 = wz (x + y) := by
  unfold wz; rw [BitVec.toNat_add]; omega
theorem w_add (x y : W) : IntKind.u32.wrap (wz x + wz y) = wz (x + y) := by rw [IntKind.wrap_u32, w_addm]
theorem w_not (x : W) : bits .xor .u32 4294967295 (wz x) = wz (~~~x) := by
  have h : (4294967295 : Int) = wz (BitVec.allOnes 32) := rfl
  rw [h, w_xor, BitVec.allOnes_xor]
theorem w_not' (x : W) : bits .xor .u32 (-1) (wz x) = wz (~~~x) := by
  rw [← w_not]; rfl
theorem w_notr (x : W) : bits .xor .u32 (wz x) 4294967295 = wz (~~~x) := by
  have h : (4294967295 : Int) = wz (BitVec.allOnes 32) := rfl
  rw [h, w_xor, BitVec.xor_allOnes]
theorem w_shr (x : W) (n : Nat) : wz x / 2 ^ n = wz (x >>> n) := by
  unfold wz; rw [BitVec.toNat_ushiftRight, Nat.shiftRight_eq_div_pow]
  exact (Int.natCast_ediv _ _).symm ▸ by simp
theorem w_shlm (x : W) (n : Nat) : wz x * 2 ^ n % 4294967296 = wz (x <<< n) := by
  unfold wz; rw [BitVec.toNat_shiftLeft, Nat.shiftLeft_eq]
  simp
theorem w_shl (x : W) (n : Nat) : IntKind.u32.wrap (wz x * 2 ^ n) = wz (x <<< n) := by rw [IntKind.wrap_u32, w_shlm]

theorem left_n (n : Nat) (h0 : 0 < n) (h1 : n < 32) : bits .and .u64 (IntKind.u64.wrap (-(n : Int))) 31 = ((32 - n : Nat) : Int) := by
  have : ∀ k : Fin 32, 0 < k.val → bits .and .u64 (IntKind.u64.wrap (-(k.val : Int))) 31 = ((32 - k.val : Nat) : Int) := by decide +kernel
  exact this ⟨n, h1⟩ h0

theorem rol_any (w : World) (x : W) (n : Nat) (h0 : 0 < n) (h1 : n < 32) :
    Calls Tryd.prog 99 #[wv x, .int .i64 (-(n : Int))] w fun e w' => e = .returned (wv (ror x n)) ∧ w' = w := by
  have hl := left_n n h0 h1
  unfold wv
  go_enter Tryd.func99, Tryd.ntmps99
  go_wp2
  go_ret
  rw [w_shlm, w_shr, w_or, show 32 - (32 - n) = n by omega, ror, BitVec.or_comm]
  exact ⟨rfl, rfl⟩

theorem size_word (w : World) : (Go.sizeOf 92).run Tryd.prog w = .ok 1 w := by kernel_rfl
theorem agg_word (w : World) : (isAgg 92).run Tryd.prog w = .ok false w := by kernel_rfl
theorem wv_one (l : List W) : ∀ u ∈ l.map wv, u.oneCell' = true := by
  intro u hu
  obtain ⟨_, _, rfl⟩ := List.mem_map.1 hu
  rfl

theorem fill_step (xs : List W) (n k : Nat) (x : W) (hk : k < xs.length) (hx : x = xs[k]) (hn : k < n) : ((xs.take k ++ List.replicate (n - k) 0).map wv).set k (wv x) = (xs.take (k + 1) ++ List.replicate (n - (k + 1)) 0).map wv := by
  subst hx
  rw [← List.map_set, List.take_succ_eq_append_getElem hk, show n - k = (n - (k + 1)) + 1 by omega, List.replicate_succ, List.append_assoc]
  rw [List.set_append_right _ _ (by simp; omega)]
  congr 2
  have : k - (xs.take k).length = 0 := by simp; omega
  rw [this]
  rfl

theorem snoc_step (xs : List W) (n : Nat) (x : W) (hn : 0 < n) : ((xs ++ List.replicate n 0).map wv).set xs.length (wv x) = ((xs ++ [x]) ++ List.replicate (n - 1) 0).map wv := by
  rw [← List.map_set, show n = (n - 1) + 1 by omega, List.replicate_succ, List.set_append_right _ _ (by omega), Nat.sub_self]
  simp
theorem add_step (xs ys : List W) (k : Nat) (hk : k < xs.length) (hl : ys.length = xs.length) (v : W) (hv : v = xs.getD k 0 + ys.getD k 0) :
    (((List.zipWith (· + ·) xs ys).take k ++ xs.drop k).map wv).set k (wv v) = ((List.zipWith (· + ·) xs ys).take (k + 1) ++ xs.drop (k + 1)).map wv := by
  subst hv
  have hz : k < (List.zipWith (· + ·) xs ys).length := by simp; omega
  rw [← List.map_set, List.take_succ_eq_append_getElem hz, List.set_append_right _ _ (by simp; omega)]
  have : k - ((List.zipWith (· + ·) xs ys).take k).length = 0 := by simp; omega
  rw [this, List.drop_eq_getElem_cons hk, List.append_assoc]
  have hky : k < ys.length := by omega
  rw [List.set_cons_zero]
  simp [List.getD, hk, hky]

end Go.Proofs.YtjckdgapefaokaaDoor

/- What sha's turned answers. No condition but those that the lemma names. -/
namespace Go.Proofs.YtjckdgapefaokaaDoor
open Go.RowKit

theorem turned_any (w : World) (x : W) (n : Nat) (h0 : 0 < n) (h1 : n < 32) :
    Calls Tryd.prog 80 #[wv x, .int .i64 (n : Int)] w fun e w' => e = .returned (wv (ror x n)) ∧ w' = w := by
  go_enter Tryd.func80, Tryd.ntmps80
  go_wp2_with (go_at_call 99; refine (rol_any _ x n h0 h1).mono ?_; rintro e w' ⟨rfl, rfl⟩)
  go_ret
  exact ⟨rfl, rfl⟩

end Go.Proofs.YtjckdgapefaokaaDoor

/- A slice of steps (the law package's Act), in words of our own. No condition but those that each lemma names. -/
namespace Go.Proofs.YtjckdgapefaokaaDoor
open Go.RowKit

/-- A step: its numbers, its key's byte, and where its two texts lie, and what they are. -/
structure ActR where
  kind : Int
  n : Int
  key : UInt8
  bo : Option Addr
  bc : Nat
  be : List UInt8
  xo : Option Addr
  xc : Nat
  tx : List UInt8
deriving Inhabited

/-- The slice value '.slice ao l.length c' holds the steps l. -/
structure Acts (w : World) (ao : Option Addr) (c : Nat) (l : List ActR) : Prop where
  zip : ao = none → l.length = 0 ∧ c = 0
  fits : l.length ≤ c
  most : c ≤ maxLen
  shape : ∀ ad, ao = some ad → 0 < l.length → ad.spot = none
  c0 : ∀ ad, ao = some ad → ∀ i (h : i < l.length), w.cell? ⟨ad.block, ad.off + i * 5, none⟩ = some (.int .i64 l[i].kind)
  c1 : ∀ ad, ao = some ad → ∀ i (h : i < l.length), w.cell? ⟨ad.block, ad.off + (i * 5 + 1), none⟩ = some (.int .i64 l[i].n)
  c2 : ∀ ad, ao = some ad → ∀ i (h : i < l.length), w.cell? ⟨ad.block, ad.off + (i * 5 + 2), none⟩ = some (bv l[i].key)
  c3 : ∀ ad, ao = some ad → ∀ i (h : i < l.length), w.cell? ⟨ad.block, ad.off + (i * 5 + 3), none⟩ = some (.slice l[i].bo l[i].be.length l[i].bc)
  c4 : ∀ ad, ao = some ad → ∀ i (h : i < l.length), w.cell? ⟨ad.block, ad.off + (i * 5 + 4), none⟩ = some (.slice l[i].xo l[i].tx.length l[i].xc)
  b3 : ∀ i (h : i < l.length), Bts w l[i].bo l[i].bc l[i].be
  b4 : ∀ i (h : i < l.length), Bts w l[i].xo l[i].xc l[i].tx

theorem Acts.none {w a : World} {ao : Option Addr} {c : Nat} {l : List ActR} (h : Acts w ao c l) (g : w.grownBy a Option.none) : Acts a ao c l :=
  ⟨h.zip, h.fits, h.most, h.shape, fun ad e i hi => g.cell (h.c0 ad e i hi) (by simp), fun ad e i hi => g.cell (h.c1 ad e i hi) (by simp), fun ad e i hi => g.cell (h.c2 ad e i hi) (by simp), fun ad e i hi => g.cell (h.c3 ad e i hi) (by simp), fun ad e i hi => g.cell (h.c4 ad e i hi) (by simp),
    fun i hi => (h.b3 i hi).kept g (fun _ e => by cases e), fun i hi => (h.b4 i hi).kept g (fun _ e => by cases e)⟩

/-- Where a step lies. -/
theorem Acts.at {w : World} {ao : Option Addr} {c : Nat} {l : List ActR} (h : Acts w ao c l) (i : Nat) (hi : i < l.length) : ∃ b o, ao = some ⟨b, o, Option.none⟩ ∧ w.rangeAt b (o + i * 5) [.int .i64 l[i].kind, .int .i64 l[i].n, bv l[i].key, .slice l[i].bo l[i].be.length l[i].bc, .slice l[i].xo l[i].tx.length l[i].xc] := by
  obtain ⟨ad, had⟩ : ∃ ad, ao = some ad := by
    cases ao with
    | none => have := (h.zip rfl).1; omega
    | some ad => exact ⟨ad, rfl⟩
  have hs := h.shape ad had (by omega)
  have h0 := h.c0 ad had i hi
  have h1 := h.c1 ad had i hi
  have h2 := h.c2 ad had i hi
  have h3 := h.c3 ad had i hi
  have h4 := h.c4 ad had i hi
  obtain ⟨b, o, s⟩ := ad
  simp only at hs h0 h1 h2 h3 h4
  subst hs
  refine ⟨b, o, had, ?_⟩
  intro j v hj
  match j, hj with
  | 0, hj => simp at hj; subst hj; exact h0
  | 1, hj => simp at hj; subst hj; rw [Nat.add_assoc]; exact h1
  | 2, hj => simp at hj; subst hj; rw [Nat.add_assoc]; exact h2
  | 3, hj => simp at hj; subst hj; rw [Nat.add_assoc]; exact h3
  | 4, hj => simp at hj; subst hj; rw [Nat.add_assoc]; exact h4

end Go.Proofs.YtjckdgapefaokaaDoor
