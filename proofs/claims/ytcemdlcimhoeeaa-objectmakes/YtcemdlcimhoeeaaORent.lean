/- An entry of the document's is appended to a row of the call's own. No condition but those that each lemma names. -/
import Derived.Test.YtcemdlcimhoeeaaRTree
import Derived.Test.YtcemdlcimhoeeaaOApp
namespace Go.Proofs.Ytcemdlcimhoeeaa
open Go.RowKit

theorem info_rentp : (Try.prog.info? 73).map (fun i => (i.zero, i.size, i.bytes)) = some (some (.agg (reC ⟨[], false, []⟩).toArray), 3, 40) := by kernel_rfl
/-- 'append(own, x)', own a row of the call's own, x in a block of its own. -/
theorem step_append_rent {w : World} {ops : Array Oper} {o : Oper} {a : Act} {K : Act → World → Prop} {Q : Exit → Act → World → Prop} {E : Prop} (hw : Region.wanted o (yielded ops a.tmps) = true) (s x : Operand)
    (ho : o.op = .call { callee := .builtin .append, args := #[s, x], argTypes := #[43, 43] })
    (base : Nat) (v : Value) (n : Nat) (xs : List Value) (hs : a.eval s = v) (hown : w.ownsRow base 73 3 v n xs) (p : Nat) (EC : List Value) (hB : Blk w p 73 EC) (hEl : EC.length = 3) (hE1 : ∀ u ∈ EC, u.oneCell' = true)
    (hx : a.eval x = .slice (some ⟨p, 0, none⟩) 1 1) (hn : n ≤ 100000) (hbase : base ≤ w.heap.size)
    (h : ∀ v' w', w'.ownsRow base 73 3 v' (n + 1) (xs ++ EC) → w.grownBy w' v.ownBlock → K (a.put o.dst v') w') :
    if Region.wanted o (yielded ops a.tmps) = true then Oper.wp Try.prog o a w K Q else E := by
  rw [if_pos hw]
  obtain ⟨i0, hi, hz0, hz1, hz2⟩ := info_parts info_rentp
  exact wp_append_own w s x 43 ho base 73 i0 _ 3 40 Try.underlying43 hi hz0 hz1 hz2 rfl (by decide) v n xs hs hown ⟨p, 0, none⟩ 1 1 EC hx (by rw [hEl]) (fun j u hu => World.news_of_block hB j u (by simpa using hu)) hE1 (by unfold maxLen; omega) (by omega) hbase (fun v' w' q1 q2 _ => h v' w' q1 q2)
theorem wpList_append_rent {w : World} {ops : Array Oper} {rest : List Oper} {o : Oper} {a : Act} {Q : Exit → Act → World → Prop} (hgd : o.guard = none) (s x : Operand)
    (ho : o.op = .call { callee := .builtin .append, args := #[s, x], argTypes := #[43, 43] })
    (base : Nat) (v : Value) (n : Nat) (xs : List Value) (hs : a.eval s = v) (hown : w.ownsRow base 73 3 v n xs) (p : Nat) (EC : List Value) (hB : Blk w p 73 EC) (hEl : EC.length = 3) (hE1 : ∀ u ∈ EC, u.oneCell' = true)
    (hx : a.eval x = .slice (some ⟨p, 0, none⟩) 1 1) (hn : n ≤ 100000) (hbase : base ≤ w.heap.size)
    (h : ∀ v' w', w'.ownsRow base 73 3 v' (n + 1) (xs ++ EC) → w.grownBy w' v.ownBlock → wpList Try.prog ops Q rest (a.put o.dst v') w') : wpList Try.prog ops Q (o :: rest) a w := by
  obtain ⟨i0, hi, hz0, hz1, hz2⟩ := info_parts info_rentp
  exact wpList_append_own w hgd s x 43 ho base 73 i0 _ 3 40 Try.underlying43 hi hz0 hz1 hz2 rfl (by decide) v n xs hs hown ⟨p, 0, none⟩ 1 1 EC hx (by rw [hEl]) (fun j u hu => World.news_of_block hB j u (by simpa using hu)) hE1 (by unfold maxLen; omega) (by omega) hbase (fun v' w' q1 q2 _ => h v' w' q1 q2)
/-- Such a row is kept where another block changes. -/
theorem own_rent {w a : World} {base n : Nat} {v : Value} {xs : List Value} (h : w.ownsRow base 73 3 v n xs) {r : Option Nat} (g : w.grownBy a r) (hr : ∀ x, r = some x → x < base) : a.ownsRow base 73 3 v n xs :=
  h.kept g (by
    by_cases e : v.ownBlock = none
    · exact Or.inl e
    · refine Or.inr fun e2 => ?_
      cases hv : v.ownBlock with
      | none => exact e hv
      | some b =>
        have h1 := (h.lt b hv).1
        have h2 := hr b (by rw [← e2, hv])
        omega)
theorem built_rent (s t : ByteArray) (b : Bool) : Try.prog.built 73 [(0, .string s), (1, .bool b), (2, .string t)] = some #[.string s, .bool b, .string t] := by kernel_rfl
theorem bs_rent (s t : ByteArray) (b : Bool) (V : World) : (Instr.buildSlice 43 1 #[(0, .agg #[.string s, .bool b, .string t])]).run Try.prog V = .ok (.slice (some ⟨V.heap.size, 0, none⟩) 1 1) (V.alloc (.cells #[.string s, .bool b, .string t] 73)) := by kernel_rfl

end Go.Proofs.Ytcemdlcimhoeeaa
