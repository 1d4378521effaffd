/- What the library's Builder answers: Write lays bytes behind those that it holds, String tells all of them (by the shelf's contracts of copyCheck and String, imported; Write is walked: the shelf has no contract of it for bytes that are nil). A builder in a block of the call's own; of at most 2 to the 46 bytes. -/
import Derived.Test.YtjckdgapefaokaaDoorBMap
import Derived.Test.YtjckdgapefaokaaDoorMStr
import Derived.Shelf.Strings.Builder1
import Derived.Test.YtjckdgapefaokaaDoorSMath
import Derived.Laws.BitsAllLaws
import Derived.Laws.Bits64
import Derived.Laws.Unary
namespace Go.Proofs.YtjckdgapefaokaaDoor
open Go.RowKit Go.Shelf

/-- This program's numbers, in the places of the shelf's. -/
def bldR : Ren :=
  ⟨fun n => if n = 240 then 39 else if n = 276 then 54 else if n = 169 then 25 else n,
   fun n => if n = 37 then 22 else if n = 70 then 66 else if n = 72 then 68 else if n = 127 then 95 else if n = 164 then 110 else n,
   fun n => n⟩

theorem bld240 : Lays.n240 Tryd.prog bldR := by constructor <;> (intros; kernel_rfl)
theorem bld169 : Lays.n169 Tryd.prog bldR := by constructor <;> (intros; kernel_rfl)
theorem bld72 : Builder.X72 Tryd.prog bldR := by constructor <;> (intros; kernel_rfl)
theorem bldE : Builder.Extra Tryd.prog bldR :=
  { toX72 := bld72, t5 := by kernel_rfl, a5 := fun _ => by kernel_rfl, z5 := fun _ => by kernel_rfl, v5 := fun _ => by kernel_rfl, infoByte := by kernel_rfl, cellsByte := by kernel_rfl, sizeByte := by kernel_rfl, neB5 := by decide }

theorem copyCheck_any (B b : Nat) (bs : List Value) (w : World) (h : Lib.IsBuilder 68 5 B b bs w) :
    Calls Tryd.prog 39 #[.pointer (some ⟨b, 0, none⟩)] w fun e w' => e = .returned (.tuple #[]) ∧ (Lib.BuilderAt 68 5 B b (.pointer (some ⟨b, 0, none⟩)) bs w' ∧ Below B w w') :=
  Any.Builder_copyCheck bld240 bld72 B b bs w h

theorem own_slice {V : World} {base n : Nat} {v : Value} {xs : List Value} (h : V.ownsRow base 5 1 v n xs) : ∃ ao m c, v = .slice ao m c := by
  rcases h.2 with ⟨e, _⟩ | ⟨_, _, _, e, _⟩ <;> exact ⟨_, _, _, e⟩

set_option maxRecDepth 100000 in
/-- Bytes, wherever they lie, or none, are laid behind those that a builder holds. -/
theorem bwrite_any (w : World) (B b : Nat) (l x : List UInt8) (ao : Option Addr) (c : Nat) (h : Lib.IsBuilder 68 5 B b (l.map bv) w) (hx : ∀ a, Below B w a → Bts a ao c x) (hlen : l.length + x.length ≤ 70368744177664) (hBw : B ≤ w.heap.size) :
    Calls Tryd.prog 24 #[.pointer (some ⟨b, 0, none⟩), .slice ao x.length c] w fun e w' => e = .returned (.tuple #[.int .i64 x.length, .nilIface]) ∧ (Lib.BuilderAt 68 5 B b (.pointer (some ⟨b, 0, none⟩)) ((l ++ x).map bv) w' ∧ Below B w w') := by
  have hcheck := copyCheck_any B b (l.map bv) w h
  clear h
  go_enter Tryd.func24, Tryd.ntmps24
  go_wp2_with (go_at_call 39; refine hcheck.mono ?_)
  rintro e w1 ⟨rfl, ⟨hB, v, hblk, hown, hne⟩, g1⟩
  clear hcheck
  have hb1 : Blk w1 b 68 [.pointer (some ⟨b, 0, none⟩), v] := hblk
  have hbuf : w1.cell? ⟨b, 1, none⟩ = some v := hb1.cell 1
  have hx1 := hx w1 g1
  have hs1 := Nat.le_trans hBw g1.size
  have hll : (l.map bv).length + x.length ≤ 140737488355328 := by rw [List.length_map]; omega
  have HLL := hide hll
  clear hll hblk
  go_wp2_with (at_builtin; refine wpList_append_bts rfl _ _ rfl B _ _ _ rfl hown ao c x hx1 rfl (unhide HLL) hs1 ?_)
  intro v' w2 hown2 g2
  have hb2 := hb1.kept g2 (fun e => hne e.symm)
  have hbuf2 : w2.cell? ⟨b, 1, none⟩ = some v := hb2.cell 1
  have hfz2 := hb2.fz 1
  have hw2 : Below B w w2 := g1.grown g2 hs1 (fun k hk => (hown.lt k hk).1)
  have hput : Lib.BuilderAt 68 5 B b (.pointer (some ⟨b, 0, none⟩)) ((l ++ x).map bv) (w2.setCell ⟨b, 1, none⟩ v') :=
    Lib.BuilderAt.put hB hb2 (by rw [List.map_append, List.length_append]; simpa using hown2) (by decide)
  have HPUT := hide hput
  obtain ⟨bo, bn, bc, rfl⟩ := own_slice hown2
  clear hput hb1 hb2 hown hown2
  go_wp2
  go_ret2
  exact ⟨rfl, unhide HPUT, hw2.setCell (p := ⟨b, 1, none⟩) hB _⟩

/-- What a builder holds, told. -/
theorem bstring_any (B b : Nat) (l : List UInt8) (w : World) (h : Lib.IsBuilder 68 5 B b (l.map bv) w) (hBw : B ≤ w.heap.size) :
    Calls Tryd.prog 25 #[.pointer (some ⟨b, 0, none⟩)] w fun e w' => e = .returned (.string (str l)) ∧ Below B w w' :=
  Any.Builder_String_any bld169 bldE B b l w h hBw

end Go.Proofs.YtjckdgapefaokaaDoor

/- Words of 32 bits, as a walk spells them; and what the library's RotateLeft32 answers. No condition but those that each lemma names. -/
namespace Go.Proofs.YtjckdgapefaokaaDoor
open Go.RowKit

/-- A word as a number. -/
def wz (x : W) : Int := ((x.toNat : Nat) : Int)
/-- A word as a cell holds it. -/
def wv (x : W) : Value := .int .u32 (wz x)

theorem wz_lo (x : W) : 0 ≤ wz x := by unfold wz; omega
theorem wz_hi (x : W) : wz x < 4294967296 := by have := x.isLt; unfold wz; omega
theorem wz_toNat (x : W) : (wz x).toNat = x.toNat := by unfold wz; omega

theorem w_xor (x y : W) : bits .xor .u32 (wz x) (wz y) = wz (x ^^^ y) := by
  unfold wz; rw [u32_xor_nat _ _ x.isLt y.isLt, BitVec.toNat_xor]
theorem w_and (x y : W) : bits .and .u32 (wz x) (wz y) = wz (x &&& y) := by
  unfold wz; rw [u32_and_nat _ _ x.isLt y.isLt, BitVec.toNat_and]
theorem w_or (x y : W) : bits .or .u32 (wz x) (wz y) = wz (x ||| y) := by
  unfold wz; rw [u32_or_nat _ _ x.isLt y.isLt, BitVec.toNat_or]
theorem w_addm (x y : W) : (wz x + wz y) % 4294967296 = wz (x + y) := by
  unfold wz; rw [BitVec.toNat_add]; omega
theorem w_add (x y : W) : IntKind.u32.wrap (wz x + wz y) = wz (x + y) := by rw [IntKind.wrap_u32, w_addm]
theorem w_not (x : W) : bits .xor .u32 4294967295 (wz x) = wz (~~~x) := by
  have h : (4294967295 : Int) = wz (BitVec.allOnes 32) := rfl
  rw [h, w_xor, BitVec.allOnes_xor]
theorem w_not' (x : W) : bits .xor .u32 (-1) (wz x) = wz (~~~x) := by
  rw [← w_not]; rfl
theorem w_notr (x : W) : bits .xor .u32 (wz x) 4294967295 = wz (~~~x) := by
  have h : (4294967295 : Int) = wz (BitVec.allOnes 32) := rfl
  rw [h, w_xor, BitVec.xor_allOnes]
theorem w_shr (x : W) (n : Nat) : wz x / 2 ^ n = wz (x >>> n) := by
  unfold wz; rw [BitVec.toNat_ushiftRight, Nat.shiftRight_eq_div_pow]
  exact (Int.natCast_ediv _ _).symm ▸ by simp
theorem w_shlm (x : W) (n : Nat) : wz x * 2 ^ n % 4294967296 = wz (x <<< n) := by
  unfold wz; rw [BitVec.toNat_shiftLeft, Nat.shiftLeft_eq]
  simp
theorem w_shl (x : W) (n : Nat) : IntKind.u32.wrap (wz x * 2 ^ n) = wz (x <<< n) := by rw [IntKind.wrap_u32, w_shlm]

theorem left_n (n : Nat) (h0 : 0 < n) (h1 : n < 32) : bits .and .u64 (IntKind.u64.wrap (-(n : Int))) 31 = ((32 - n : Nat) : Int) := by
  have : ∀ k : Fin 32, 0 < k.val → bits .and .u64 (IntKind.u64.wrap (-(k.val : Int))) 31 = ((32 - k.val : Nat) : Int) := by decide +kernel
  exact this ⟨n, h1⟩ h0

theorem rol_any (w : World) (x : W) (n : Nat) (h0 : 0 < n) (h1 : n < 32) :
    Calls Tryd.prog 99 #[wv x, .int .i64 (-(n : Int))] w fun e w' => e = .returned (wv (ror x n)) ∧ w' = w := by
  have hl := left_n n h0 h1
  unfold wv
  go_enter Tryd.func99, Tryd.ntmps99
  go_wp2
  go_ret
  rw [w_shlm, w_shr, w_or, show 32 - (32 - n) = n by omega, ror, BitVec.or_comm]
  exact ⟨rfl, rfl⟩

theorem size_word (w : World) : (Go.sizeOf 92).run Tryd.prog w = .ok 1 w := by kernel_rfl
theorem agg_word (w : World) : (isAgg 92).run Tryd.prog w = .ok false w := by kernel_rfl
theorem wv_one (l : List W) : ∀ u ∈ l.map wv, u.oneCell' = true := by
  intro u hu
  obtain ⟨_, _, rfl⟩ := List.mem_map.1 hu
  rfl

theorem fill_step (xs : List W) (n k : Nat) (x : W) (hk : k < xs.length) (hx : x = xs[k]) (hn : k < n) : ((xs.take k ++ List.replicate (n - k) 0).map wv).set k (wv x) = (xs.take (k + 1) ++ List.replicate (n - (k + 1)) 0).map wv := by
  subst hx
  rw [← List.map_set, List.take_succ_eq_append_getElem hk, show n - k = (n - (k + 1)) + 1 by omega, List.replicate_succ, List.append_assoc]
  rw [List.set_append_right _ _ (by simp; omega)]
  congr 2
  have : k - (xs.take k).length = 0 := by simp; omega
  rw [this]
  rfl

theorem snoc_step (xs : List W) (n : Nat) (x : W) (hn : 0 < n) : ((xs ++ List.replicate n 0).map wv).set xs.length (wv x) = ((xs ++ [x]) ++ List.replicate (n - 1) 0).map wv := by
  rw [← List.map_set, show n = (n - 1) + 1 by omega, List.replicate_succ, List.set_append_right _ _ (by omega), Nat.sub_self]
  simp
theorem add_step (xs ys : List W) (k : Nat) (hk : k < xs.length) (hl : ys.length = xs.length) (v : W) (hv : v = xs.getD k 0 + ys.getD k 0) :
    (((List.zipWith (· + ·) xs ys).take k ++ xs.drop k).map wv).set k (wv v) = ((List.zipWith (· + ·) xs ys).take (k + 1) ++ xs.drop (k + 1)).map wv := by
  subst hv
  have hz : k < (List.zipWith (· + ·) xs ys).length := by simp; omega
  rw [← List.map_set, List.take_succ_eq_append_getElem hz, List.set_append_right _ _ (by simp; omega)]
  have : k - ((List.zipWith (· + ·) xs ys).take k).length = 0 := by simp; omega
  rw [this, List.drop_eq_getElem_cons hk, List.append_assoc]
  have hky : k < ys.length := by omega
  rw [List.set_cons_zero]
  simp [List.getD, hk, hky]

end Go.Proofs.YtjckdgapefaokaaDoor

/- What sha's turned answers. No condition but those that the lemma names. -/
namespace Go.Proofs.YtjckdgapefaokaaDoor
open Go.RowKit

theorem turned_any (w : World) (x : W) (n : Nat) (h0 : 0 < n) (h1 : n < 32) :
    Calls Tryd.prog 80 #[wv x, .int .i64 (n : Int)] w fun e w' => e = .returned (wv (ror x n)) ∧ w' = w := by
  go_enter Tryd.func80, Tryd.ntmps80
  go_wp2_with (go_at_call 99; refine (rol_any _ x n h0 h1).mono ?_; rintro e w' ⟨rfl, rfl⟩)
  go_ret
  exact ⟨rfl, rfl⟩

end Go.Proofs.YtjckdgapefaokaaDoor
