/- What a law meets of draws: Take of any number of bytes; and two letters, in memory of their own. No condition but those that each lemma names. -/
import Derived.Test.YtjckdgapefaokaaDoorDTake
import Derived.Test.YtjckdgapefaokaaDoorKEqual
import Derived.Lib.SlBytesConst
import Derived.Test.YtjckdgapefaokaaDoorMApp
namespace Go.Proofs.YtjckdgapefaokaaDoor
open Go.RowKit

theorem take_any (w : World) (b : Nat) (T : List UInt8) (us n : Nat) (h : SrcAt w b T us) (hT : Tabs w) (hn : n ≤ 65536) (hus : us ≤ 70368744177664) :
    Calls Tryd.prog 22 #[.pointer (some ⟨b, 0, none⟩), .int .i64 (n : Int)] w fun e w' => ∃ ao c, e = .returned (.slice ao n c) ∧ Bts w' ao c (told T us n) ∧ (∀ ad, ao = some ad → w.heap.size ≤ ad.block) ∧ SrcAt w' b T (us + n) ∧ w.grownBy w' (some b) := by
  by_cases h0 : n = 0
  · subst h0
    refine (take_few w b ((0 : Nat) : Int) (by omega)).mono ?_
    rintro e w' ⟨rfl, rfl⟩
    exact ⟨none, 0, rfl, Bts.nil _, (fun _ e => by cases e), h, gb_refl _ _⟩
  · refine (take_some w b T us n h.fit hT (by omega) hn hus).mono ?_
    rintro e w' ⟨g, rfl, hg, hB, hS, gg⟩
    exact ⟨_, _, rfl, blk_bytes hB n (by rw [told_length]; exact Nat.le_refl _) (by unfold maxLen; omega), (fun ad e => by cases e; exact hg), hS, gg⟩

theorem bts_new (V : World) (l : List UInt8) (mk : Nat × Nat) (h : l.length ≤ maxLen) : Bts (V.alloc (.cells (l.map bv).toArray 5 mk)) (some ⟨V.heap.size, 0, none⟩) l.length l := by
  refine ⟨(fun e => by cases e), Nat.le_refl _, h, (fun ad e _ => by cases e; rfl), (fun ad e i hi => ?_)⟩
  cases e
  show (V.alloc (.cells (l.map bv).toArray 5 mk)).cell? ⟨V.heap.size, 0 + i, none⟩ = _
  rw [Nat.zero_add, cell_of_row _ _ i _ _ _ (heap_alloc_new V _)]
  simp [hi, bv]

/-- A text of two letters, each in memory of its own. -/
theorem two_letters (w : World) : ∃ W3, W3 = ((w.alloc (.cells #[.int .u8 97] 5 (1, 2))).alloc (.cells #[.int .u8 98] 5 (1, 2))).alloc (.cells #[.slice (some ⟨w.heap.size, 0, none⟩) 1 1, .slice (some ⟨w.heap.size + 1, 0, none⟩) 1 1] 22) ∧
    Lst W3 (some ⟨w.heap.size + 2, 0, none⟩) 2 [[97], [98]] ∧ w.grownBy W3 none := by
  obtain ⟨W1, hW1⟩ : ∃ W1, W1 = w.alloc (.cells #[.int .u8 97] 5 (1, 2)) := ⟨_, rfl⟩
  obtain ⟨W2, hW2⟩ : ∃ W2, W2 = W1.alloc (.cells #[.int .u8 98] 5 (1, 2)) := ⟨_, rfl⟩
  rw [← hW1, ← hW2]
  have s1 : W1.heap.size = w.heap.size + 1 := by rw [hW1, World.size_alloc]
  have s2 : W2.heap.size = w.heap.size + 2 := by rw [hW2, World.size_alloc, s1]
  have b1 : Bts W1 (some ⟨w.heap.size, 0, none⟩) 1 [97] := by rw [hW1]; exact bts_new w [97] (1, 2) (by decide)
  have b2 : Bts W2 (some ⟨w.heap.size + 1, 0, none⟩) 1 [98] := by
    have := bts_new W1 [98] (1, 2) (by decide)
    rw [s1] at this
    rw [hW2]; exact this
  have g12 : W1.grownBy W2 none := by rw [hW2]; exact gb_alloc (gb_refl _ _) _
  have hN : Blk (W2.alloc (.cells #[.slice (some ⟨w.heap.size, 0, none⟩) 1 1, .slice (some ⟨w.heap.size + 1, 0, none⟩) 1 1] 22)) (w.heap.size + 2) 22 [.slice (some ⟨w.heap.size, 0, none⟩) 1 1, .slice (some ⟨w.heap.size + 1, 0, none⟩) 1 1] := by
    have := Blk.new W2 22 [.slice (some ⟨w.heap.size, 0, none⟩) 1 1, .slice (some ⟨w.heap.size + 1, 0, none⟩) 1 1]
    rw [s2] at this
    exact this
  have g23 := gb_alloc (gb_refl W2 none) (.cells #[.slice (some ⟨w.heap.size, 0, none⟩) 1 1, .slice (some ⟨w.heap.size + 1, 0, none⟩) 1 1] 22)
  refine ⟨_, rfl, lst_two hN ((b1.kept g12 (fun _ e => by cases e)).kept g23 (fun _ e => by cases e)) (b2.kept g23 (fun _ e => by cases e)), ?_⟩
  refine gb_alloc ?_ _
  rw [hW2, hW1]
  exact gb_alloc (gb_alloc (gb_refl _ _) _) _

end Go.Proofs.YtjckdgapefaokaaDoor

/- What outlasts a step of a law over draws: sources, bytes, and rows of the law's own. No condition but those that each lemma names. -/
namespace Go.Proofs.YtjckdgapefaokaaDoor
open Go.RowKit

/-- Bytes in a block of bytes. -/
structure BtT (w : World) (ao : Option Addr) (c : Nat) (l : List UInt8) : Prop where
  bts : Bts w ao c l
  typ : ∀ ad, ao = some ad → Typ w ad.block

theorem src_typ {w : World} {b : Nat} {T : List UInt8} {u : Nat} (h : SrcAt w b T u) : ¬ Typ w b := h.blk.typ (by decide)

theorem BtT.none {w a : World} {ao : Option Addr} {c : Nat} {l : List UInt8} (h : BtT w ao c l) (g : w.grownBy a none) : BtT a ao c l :=
  ⟨h.bts.kept g (fun _ e => by cases e), fun ad e => (h.typ ad e).kept g (by simp)⟩

theorem BtT.src {w a : World} {ao : Option Addr} {c b u : Nat} {l T : List UInt8} (h : BtT w ao c l) (hS : SrcAt w b T u) (g : w.grownBy a (some b)) : BtT a ao c l :=
  ⟨h.bts.kept g (fun x e ad e2 e3 => by cases e; exact src_typ hS (by rw [← e3]; exact h.typ ad e2)), fun ad e => (h.typ ad e).kept g (fun e2 => by cases e2; exact src_typ hS (h.typ ad e))⟩

theorem BtT.own {w a : World} {ao : Option Addr} {c base n : Nat} {l : List UInt8} {v : Value} {xs : List Value} (h : BtT w ao c l) (hlt : ∀ ad, ao = some ad → ad.block < base) (hown : w.ownsRow base 5 1 v n xs) (g : w.grownBy a v.ownBlock) : BtT a ao c l :=
  ⟨h.bts.kept g (fun x e ad e2 e3 => by have := (hown.lt x e).1; have := hlt ad e2; omega), fun ad e => (h.typ ad e).kept g (fun e2 => by have := (hown.lt _ e2.symm).1; have := hlt ad e; omega)⟩

theorem BtT.lt {w : World} {ao : Option Addr} {c : Nat} {l : List UInt8} (h : BtT w ao c l) : ∀ ad, ao = some ad → ad.block < w.heap.size := fun ad e => (h.typ ad e).lt

theorem SrcAt.own {w a : World} {b base n u : Nat} {T : List UInt8} {v : Value} {xs : List Value} (h : SrcAt w b T u) (hown : w.ownsRow base 5 1 v n xs) (g : w.grownBy a v.ownBlock) : SrcAt a b T u :=
  h.kept g (own_apart hown h.blk (by decide))

theorem own_src {w a : World} {b base n u : Nat} {T : List UInt8} {v : Value} {xs : List Value} (hown : w.ownsRow base 5 1 v n xs) (h : SrcAt w b T u) (g : w.grownBy a (some b)) : a.ownsRow base 5 1 v n xs :=
  hown.kept g (Or.inr (fun e => own_apart hown h.blk (by decide) e.symm))

theorem ts {x y z : World} {b : Nat} (hb : x.heap.size ≤ b) (h : x.grownBy y Option.none) (k : y.grownBy z (some b)) : x.grownBy z Option.none := gb_trans h k (fun _ e => by cases e; exact Or.inl hb)

theorem tn {x y z : World} {r : Option Nat} (h : x.grownBy y r) (k : y.grownBy z Option.none) : x.grownBy z r := gb_trans h k (fun _ e => by cases e)

theorem own_btT {w : World} {base n : Nat} {v : Value} {l : List UInt8} (h : w.ownsRow base 5 1 v n (l.map bv)) : ∃ ao c, v = .slice ao l.length c ∧ BtT w ao c l := by
  have hn : n = l.length := by simpa using h.1.symm
  subst hn
  rcases h.2 with ⟨rfl, h0⟩ | ⟨g, cap, cur, rfl, _⟩
  · have : l = [] := List.eq_nil_of_length_eq_zero h0
    subst this
    exact ⟨Option.none, 0, rfl, Bts.nil _, fun _ e => by cases e⟩
  · exact ⟨_, _, rfl, (Bts.own h).2.2, fun ad e => by cases e; exact Typ.own h⟩

theorem lst_single {w : World} {N : Nat} {xo : Option Addr} {c : Nat} {x : List UInt8} (hB : Blk w N 22 [.slice xo x.length c]) (hx : Bts w xo c x) : Lst w (some ⟨N, 0, Option.none⟩) 1 [x] := by
  refine ⟨(fun e => by cases e), by simp, by decide, (fun ad e _ => by cases e; rfl), (fun ad e i hi => ?_)⟩
  cases e
  show ∃ ao c, w.cell? ⟨N, 0 + i, Option.none⟩ = _ ∧ _
  match i, hi with
  | 0, _ => exact ⟨xo, c, by rw [hB.cell]; rfl, hx⟩

theorem alloc_one (w2 : World) (x : Value) : ∃ W3, W3 = w2.alloc (.cells #[x] 22) ∧ Blk W3 w2.heap.size 22 [x] ∧ w2.grownBy W3 Option.none :=
  ⟨_, rfl, Blk.new w2 22 _, gb_alloc (gb_refl _ _) _⟩

/-- Take, as a law meets it. -/
theorem take_law (w : World) (b : Nat) (T : List UInt8) (us n : Nat) (h : SrcAt w b T us) (hT : Tabs w) (hn : n ≤ 65536) (hus : us ≤ 70368744177664) :
    Calls Tryd.prog 22 #[.pointer (some ⟨b, 0, Option.none⟩), .int .i64 (n : Int)] w fun e w' => ∃ ao c, e = .returned (.slice ao n c) ∧ BtT w' ao c (told T us n) ∧ SrcAt w' b T (us + n) ∧ w.grownBy w' (some b) := by
  by_cases h0 : n = 0
  · subst h0
    refine (take_few w b ((0 : Nat) : Int) (by omega)).mono ?_
    rintro e w' ⟨rfl, rfl⟩
    exact ⟨Option.none, 0, rfl, ⟨Bts.nil _, fun _ e => by cases e⟩, h, gb_refl _ _⟩
  · refine (take_some w b T us n h.fit hT (by omega) hn hus).mono ?_
    rintro e w' ⟨g, rfl, hg, hB, hS, gg⟩
    exact ⟨_, _, rfl, ⟨blk_bytes hB n (by rw [told_length]; exact Nat.le_refl _) (by unfold maxLen; omega), (fun ad e => by cases e; exact ⟨_, _, hB⟩)⟩, hS, gg⟩

/-- Two arrays held against each other, at a step of a region that draws its order. -/
theorem yieldsIf_same {P : Program} {ops : Array Oper} {S : World → Prop} {op : Oper} {a : Act} (hw : Region.wanted op (yielded ops a.tmps) = true) (t t' : TypeId) (x y : Operand) (ho : op.op = .binOp .eql t x y t') (X Z : Array Value) (r : Bool)
    (hx : a.eval x = .agg X) (hy : a.eval y = .agg Z) (hm : P.eqGuardType P.depth t = false) (hq : ∀ w : World, (binOp .eql t (.agg X) (.agg Z)).run P w = .ok (.bool r) w) : YieldsIf P ops S op (.bool r) a :=
  .inl ⟨hw, fun w _ => by
    unfold execOp
    simp only [ho, hx, hy, Sem.run_bind, run_eqGuard_agg w .eql t x y X Z hm, hq, Result.andThen_ok]
    rfl⟩
/-- An array that is built of what is known, at such a step. -/
theorem yieldsIf_built {P : Program} {ops : Array Oper} {S : World → Prop} {op : Oper} {a : Act} (hw : Region.wanted op (yielded ops a.tmps) = true) (t : TypeId) (parts : Array (Nat × Operand)) (ho : op.op = .build t parts) (cells : Array Value)
    (hf : P.built t (parts.map fun (i, x) => (i, a.eval x)).toList = some cells) : YieldsIf P ops S op (.agg cells) a :=
  .inl ⟨hw, fun w _ => by
    unfold execOp
    simp only [ho, Sem.run_bind, run_build w t _ cells hf, Result.andThen_ok]
    rfl⟩

theorem eql_keys (w : World) (xs : List UInt8) (hx : xs.length = 32) : (binOp .eql 37 (.agg (xs.map bv).toArray) (.agg (xs.map bv).toArray)).run Tryd.prog w = .ok (.bool true) w := by
  have := run_eql_bytes w 37 5 32 Tryd.underlying37 Tryd.underlying5 size_byte xs xs hx hx
  rw [beq_self_eq_true] at this
  exact this
theorem guard_key : Tryd.prog.eqGuardType Tryd.prog.depth 37 = false := by kernel_rfl
theorem built_key0 : Tryd.prog.built 37 [] = some ((List.replicate 32 (0 : UInt8)).map bv).toArray := by kernel_rfl

theorem and_mask (M : Nat) (hM : M < 65536) (a : Int) : ∃ j : Nat, j ≤ M ∧ bits .and .i64 a (M : Int) = (j : Int) := by
  have hm : (BitVec.ofInt 64 (M : Int)).toNat = M := by rw [BitVec.toNat_ofInt]; omega
  have h : (BitVec.ofInt 64 a &&& BitVec.ofInt 64 (M : Int)).toNat ≤ M := by
    rw [BitVec.toNat_and, hm]
    exact Nat.and_le_right
  refine ⟨(BitVec.ofInt 64 a &&& BitVec.ofInt 64 (M : Int)).toNat, h, ?_⟩
  show IntKind.i64.wrap (((BitVec.ofInt 64 a &&& BitVec.ofInt 64 (M : Int)).toNat : Nat) : Int) = _
  rw [IntKind.wrap_i64]
  omega

end Go.Proofs.YtjckdgapefaokaaDoor
