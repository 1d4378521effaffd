/- An entry, or a name of an object, is appended to a row of the call's own; and a slice of one that is built. No condition but those that each lemma names. -/
import Derived.Test.YtcemdlcimhoeeaaMSame
import Derived.Test.YtcemdlcimhoeeaaOMem
import Derived.Deep.AppendLies
import Derived.Deep.RegionHeld3
import Derived.Deep.DrawnRows
namespace Go.Proofs.Ytcemdlcimhoeeaa
open Go.RowKit

theorem info_entp : (Try.prog.info? 32).map (fun i => (i.zero, i.size, i.bytes)) = some (some (.agg (enC ⟨[], false, List.replicate 32 0⟩).toArray), 34, 56) := by kernel_rfl
/-- 'append(own, x)', own a row of the call's own, x in a block of its own. -/
theorem step_append_ent {w : World} {ops : Array Oper} {o : Oper} {a : Act} {K : Act → World → Prop} {Q : Exit → Act → World → Prop} {E : Prop} (hw : Region.wanted o (yielded ops a.tmps) = true) (s x : Operand)
    (ho : o.op = .call { callee := .builtin .append, args := #[s, x], argTypes := #[22, 22] })
    (base : Nat) (v : Value) (n : Nat) (xs : List Value) (hs : a.eval s = v) (hown : w.ownsRow base 32 34 v n xs) (p : Nat) (EC : List Value) (hB : Blk w p 32 EC) (hEl : EC.length = 34) (hE1 : ∀ u ∈ EC, u.oneCell' = true)
    (hx : a.eval x = .slice (some ⟨p, 0, none⟩) 1 1) (hn : n ≤ 100000) (hbase : base ≤ w.heap.size)
    (h : ∀ v' w', w'.ownsRow base 32 34 v' (n + 1) (xs ++ EC) → w.grownBy w' v.ownBlock → K (a.put o.dst v') w') :
    if Region.wanted o (yielded ops a.tmps) = true then Oper.wp Try.prog o a w K Q else E := by
  rw [if_pos hw]
  obtain ⟨i0, hi, hz0, hz1, hz2⟩ := info_parts info_entp
  exact wp_append_own w s x 22 ho base 32 i0 _ 34 56 Try.underlying22 hi hz0 hz1 hz2 rfl (by decide) v n xs hs hown ⟨p, 0, none⟩ 1 1 EC hx (by rw [hEl]) (fun j u hu => World.news_of_block hB j u (by simpa using hu)) hE1 (by unfold maxLen; omega) (by omega) hbase (fun v' w' q1 q2 _ => h v' w' q1 q2)
theorem wpList_append_ent {w : World} {ops : Array Oper} {rest : List Oper} {o : Oper} {a : Act} {Q : Exit → Act → World → Prop} (hgd : o.guard = none) (s x : Operand)
    (ho : o.op = .call { callee := .builtin .append, args := #[s, x], argTypes := #[22, 22] })
    (base : Nat) (v : Value) (n : Nat) (xs : List Value) (hs : a.eval s = v) (hown : w.ownsRow base 32 34 v n xs) (p : Nat) (EC : List Value) (hB : Blk w p 32 EC) (hEl : EC.length = 34) (hE1 : ∀ u ∈ EC, u.oneCell' = true)
    (hx : a.eval x = .slice (some ⟨p, 0, none⟩) 1 1) (hn : n ≤ 100000) (hbase : base ≤ w.heap.size)
    (h : ∀ v' w', w'.ownsRow base 32 34 v' (n + 1) (xs ++ EC) → w.grownBy w' v.ownBlock → wpList Try.prog ops Q rest (a.put o.dst v') w') : wpList Try.prog ops Q (o :: rest) a w := by
  obtain ⟨i0, hi, hz0, hz1, hz2⟩ := info_parts info_entp
  exact wpList_append_own w hgd s x 22 ho base 32 i0 _ 34 56 Try.underlying22 hi hz0 hz1 hz2 rfl (by decide) v n xs hs hown ⟨p, 0, none⟩ 1 1 EC hx (by rw [hEl]) (fun j u hu => World.news_of_block hB j u (by simpa using hu)) hE1 (by unfold maxLen; omega) (by omega) hbase (fun v' w' q1 q2 _ => h v' w' q1 q2)
/-- Such a row is kept where another block changes. -/
theorem own_ent {w a : World} {base n : Nat} {v : Value} {xs : List Value} (h : w.ownsRow base 32 34 v n xs) {r : Option Nat} (g : w.grownBy a r) (hr : ∀ x, r = some x → x < base) : a.ownsRow base 32 34 v n xs :=
  h.kept g (by
    by_cases e : v.ownBlock = none
    · exact Or.inl e
    · refine Or.inr fun e2 => ?_
      cases hv : v.ownBlock with
      | none => exact e hv
      | some b =>
        have h1 := (h.lt b hv).1
        have h2 := hr b (by rw [← e2, hv])
        omega)
theorem info_idp : (Try.prog.info? 24).map (fun i => (i.zero, i.size, i.bytes)) = some (some (.agg ((List.replicate 32 (0 : UInt8)).map bv).toArray), 32, 32) := by kernel_rfl
/-- 'append(own, x)', own a row of the call's own, x in a block of its own. -/
theorem step_append_id {w : World} {ops : Array Oper} {o : Oper} {a : Act} {K : Act → World → Prop} {Q : Exit → Act → World → Prop} {E : Prop} (hw : Region.wanted o (yielded ops a.tmps) = true) (s x : Operand)
    (ho : o.op = .call { callee := .builtin .append, args := #[s, x], argTypes := #[25, 25] })
    (base : Nat) (v : Value) (n : Nat) (xs : List Value) (hs : a.eval s = v) (hown : w.ownsRow base 24 32 v n xs) (p : Nat) (EC : List Value) (hB : Blk w p 24 EC) (hEl : EC.length = 32) (hE1 : ∀ u ∈ EC, u.oneCell' = true)
    (hx : a.eval x = .slice (some ⟨p, 0, none⟩) 1 1) (hn : n ≤ 100000) (hbase : base ≤ w.heap.size)
    (h : ∀ v' w', w'.ownsRow base 24 32 v' (n + 1) (xs ++ EC) → w.grownBy w' v.ownBlock → K (a.put o.dst v') w') :
    if Region.wanted o (yielded ops a.tmps) = true then Oper.wp Try.prog o a w K Q else E := by
  rw [if_pos hw]
  obtain ⟨i0, hi, hz0, hz1, hz2⟩ := info_parts info_idp
  exact wp_append_own w s x 25 ho base 24 i0 _ 32 32 Try.underlying25 hi hz0 hz1 hz2 rfl (by decide) v n xs hs hown ⟨p, 0, none⟩ 1 1 EC hx (by rw [hEl]) (fun j u hu => World.news_of_block hB j u (by simpa using hu)) hE1 (by unfold maxLen; omega) (by omega) hbase (fun v' w' q1 q2 _ => h v' w' q1 q2)
theorem wpList_append_id {w : World} {ops : Array Oper} {rest : List Oper} {o : Oper} {a : Act} {Q : Exit → Act → World → Prop} (hgd : o.guard = none) (s x : Operand)
    (ho : o.op = .call { callee := .builtin .append, args := #[s, x], argTypes := #[25, 25] })
    (base : Nat) (v : Value) (n : Nat) (xs : List Value) (hs : a.eval s = v) (hown : w.ownsRow base 24 32 v n xs) (p : Nat) (EC : List Value) (hB : Blk w p 24 EC) (hEl : EC.length = 32) (hE1 : ∀ u ∈ EC, u.oneCell' = true)
    (hx : a.eval x = .slice (some ⟨p, 0, none⟩) 1 1) (hn : n ≤ 100000) (hbase : base ≤ w.heap.size)
    (h : ∀ v' w', w'.ownsRow base 24 32 v' (n + 1) (xs ++ EC) → w.grownBy w' v.ownBlock → wpList Try.prog ops Q rest (a.put o.dst v') w') : wpList Try.prog ops Q (o :: rest) a w := by
  obtain ⟨i0, hi, hz0, hz1, hz2⟩ := info_parts info_idp
  exact wpList_append_own w hgd s x 25 ho base 24 i0 _ 32 32 Try.underlying25 hi hz0 hz1 hz2 rfl (by decide) v n xs hs hown ⟨p, 0, none⟩ 1 1 EC hx (by rw [hEl]) (fun j u hu => World.news_of_block hB j u (by simpa using hu)) hE1 (by unfold maxLen; omega) (by omega) hbase (fun v' w' q1 q2 _ => h v' w' q1 q2)
/-- Such a row is kept where another block changes. -/
theorem own_id {w a : World} {base n : Nat} {v : Value} {xs : List Value} (h : w.ownsRow base 24 32 v n xs) {r : Option Nat} (g : w.grownBy a r) (hr : ∀ x, r = some x → x < base) : a.ownsRow base 24 32 v n xs :=
  h.kept g (by
    by_cases e : v.ownBlock = none
    · exact Or.inl e
    · refine Or.inr fun e2 => ?_
      cases hv : v.ownBlock with
      | none => exact e hv
      | some b =>
        have h1 := (h.lt b hv).1
        have h2 := hr b (by rw [← e2, hv])
        omega)

theorem bs_ent (s : ByteArray) (b : Bool) (t : List UInt8) (h : t.length = 32) (V : World) : (Instr.buildSlice 22 1 #[(0, .agg (Value.string s :: Value.bool b :: t.map bv).toArray)]).run Try.prog V = .ok (.slice (some ⟨V.heap.size, 0, none⟩) 1 1) (V.alloc (.cells (Value.string s :: Value.bool b :: t.map bv).toArray 32)) := by
  obtain ⟨a0, a1, a2, a3, a4, a5, a6, a7, a8, a9, a10, a11, a12, a13, a14, a15, a16, a17, a18, a19, a20, a21, a22, a23, a24, a25, a26, a27, a28, a29, a30, a31, rfl⟩ := list32 t h
  kernel_rfl
theorem bs_id (t : List UInt8) (h : t.length = 32) (V : World) : (Instr.buildSlice 25 1 #[(0, .agg (t.map bv).toArray)]).run Try.prog V = .ok (.slice (some ⟨V.heap.size, 0, none⟩) 1 1) (V.alloc (.cells (t.map bv).toArray 24)) := by
  obtain ⟨a0, a1, a2, a3, a4, a5, a6, a7, a8, a9, a10, a11, a12, a13, a14, a15, a16, a17, a18, a19, a20, a21, a22, a23, a24, a25, a26, a27, a28, a29, a30, a31, rfl⟩ := list32 t h
  kernel_rfl

/-- A slice of one is built, by a fact: at a step of a region that draws its order, and in a plain one. -/
theorem step_build1 {P : Program} {w w' : World} {ops : Array Oper} {o : Oper} {a : Act} {K : Act → World → Prop} {Q : Exit → Act → World → Prop} {E : Prop} (hw : Region.wanted o (yielded ops a.tmps) = true) (t : TypeId) (x : Operand) (ho : o.op = .buildSlice t 1 #[(0, x)])
    (X s : Value) (hx : a.eval x = X) (hr : (Instr.buildSlice t 1 #[(0, X)]).run P w = .ok s w') (h : K (a.put o.dst s) w') : if Region.wanted o (yielded ops a.tmps) = true then Oper.wp P o a w K Q else E := by
  rw [if_pos hw]
  unfold Oper.wp execOp
  simp only [ho, Sem.run_bind, List.map_toArray, List.map_cons, List.map_nil, hx, hr, Result.andThen_ok]
  exact h
theorem wpList_build1 {P : Program} {w w' : World} {ops : Array Oper} {rest : List Oper} {o : Oper} {a : Act} {Q : Exit → Act → World → Prop} (hg : o.guard = none) (t : TypeId) (x : Operand) (ho : o.op = .buildSlice t 1 #[(0, x)])
    (X s : Value) (hx : a.eval x = X) (hr : (Instr.buildSlice t 1 #[(0, X)]).run P w = .ok s w') (h : wpList P ops Q rest (a.put o.dst s) w') : wpList P ops Q (o :: rest) a w :=
  wpList_plain hg fun _ hK => by
    unfold Oper.wp execOp
    simp only [ho, Sem.run_bind, List.map_toArray, List.map_cons, List.map_nil, hx, hr, Result.andThen_ok]
    exact hK _ _ h

end Go.Proofs.Ytcemdlcimhoeeaa
