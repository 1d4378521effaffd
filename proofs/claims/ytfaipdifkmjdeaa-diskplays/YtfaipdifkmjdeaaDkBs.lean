/- A slice of one sector is built; a sector appended to a row of the call's own. -/
import Derived.Test.YtfaipdifkmjdeaaDkG
import Derived.Great.BuildSlice
namespace Go.Proofs.Ytfaipdifkmjdeaa
open Go.RowKit

theorem bs_sec (x : List Value) (hx : x.length = 256) (V : World) : (Instr.buildSlice 58 1 #[(0, .agg x.toArray)]).run Try.prog V = .ok (.slice (some ⟨V.heap.size, 0, none⟩) 1 1) (V.alloc (.cells x.toArray 70)) := by
  obtain ⟨i0, hi, hz0, hz1, hz2⟩ := info_parts info_sec
  refine run_buildSlice V 58 70 1 _ x.toArray i0 _ Try.underlying58 hi hz0 (by rw [hz1]; decide) (by rw [hz1]; decide) ?_
  rw [hz1]
  have hc : ((Array.range (1 * 256)).map ((Value.agg (secC zsec).toArray).cells[· % (Value.agg (secC zsec).toArray).cells.size]!)).size = 256 := by rw [Array.size_map, Array.size_range]
  generalize ((Array.range (1 * 256)).map ((Value.agg (secC zsec).toArray).cells[· % (Value.agg (secC zsec).toArray).cells.size]!)) = C at hc
  have := Go.Great.fill_whole (s := 256) (by decide) [.agg x.toArray] C (by simp [Value.cells, hx]) (by simpa using hc.symm)
  simpa [Value.cells] using this
theorem bs_int (i : Nat) (V : World) : (Instr.buildSlice 34 1 #[(0, keyN i)]).run Try.prog V = .ok (.slice (some ⟨V.heap.size, 0, none⟩) 1 1) (V.alloc (.cells #[keyN i] 3)) := by kernel_rfl

/-- 'append(own, sector)' where a region draws its order: where the row lies. -/
theorem step_append_sec {w : World} {ops : Array Oper} {o : Oper} {a : Act} {K : Act → World → Prop} {Q : Exit → Act → World → Prop} {E : Prop} (hw : Region.wanted o (yielded ops a.tmps) = true) (s x : Operand)
    (ho : o.op = .call { callee := .builtin .append, args := #[s, x], argTypes := #[58, 58] })
    (base : Nat) (v : Value) (n : Nat) (xs : List Value) (hs : a.eval s = v) (hown : w.ownsRow base 70 256 v n xs) (p : Nat) (EC : List Value) (hB : Blk w p 70 EC) (hEl : EC.length = 256) (hE1 : ∀ u ∈ EC, u.oneCell' = true)
    (hx : a.eval x = .slice (some ⟨p, 0, none⟩) 1 1) (hn : n ≤ 1000000) (hbase : base ≤ w.heap.size)
    (h : ∀ g cap w', w'.ownsRow base 70 256 (.slice (some ⟨g, 0, none⟩) (n + 1) cap) (n + 1) (xs ++ EC) → w.grownBy w' v.ownBlock → (v.ownBlock = some g ∨ g = w.heap.size) → g < w'.heap.size → K (a.put o.dst (.slice (some ⟨g, 0, none⟩) (n + 1) cap)) w') :
    if Region.wanted o (yielded ops a.tmps) = true then Oper.wp Try.prog o a w K Q else E := by
  rw [if_pos hw]
  obtain ⟨i0, hi, hz0, hz1, hz2⟩ := info_parts info_sec
  exact wp_append_lies w s x 58 ho base 70 i0 _ 256 256 Try.underlying58 hi hz0 hz1 hz2 (by rw [show Value.cells (.agg (secC zsec).toArray) = (secC zsec).toArray from rfl, List.size_toArray, secC_len, zsec_len]) (by decide) v n xs hs hown ⟨p, 0, none⟩ 1 1 EC hx (by rw [hEl]) (fun j u hu => World.news_of_block hB j u (by simpa using hu)) hE1 (by decide) (by unfold maxLen; omega) (by omega) hbase w.heap.size rfl h
/-- 'append(own, number)': where the row lies. -/
theorem wpList_append_lint {w : World} {ops : Array Oper} {rest : List Oper} {o : Oper} {a : Act} {Q : Exit → Act → World → Prop} (hgd : o.guard = none) (s x : Operand)
    (ho : o.op = .call { callee := .builtin .append, args := #[s, x], argTypes := #[34, 34] })
    (base : Nat) (v : Value) (n : Nat) (xs : List Value) (hs : a.eval s = v) (hown : w.ownsRow base 3 1 v n xs) (p : Nat) (i : Nat) (hB : Blk w p 3 [keyN i])
    (hx : a.eval x = .slice (some ⟨p, 0, none⟩) 1 1) (hn : n ≤ 1000000) (hbase : base ≤ w.heap.size)
    (h : ∀ g cap w', w'.ownsRow base 3 1 (.slice (some ⟨g, 0, none⟩) (n + 1) cap) (n + 1) (xs ++ [keyN i]) → w.grownBy w' v.ownBlock → (v.ownBlock = some g ∨ g = w.heap.size) → g < w'.heap.size → wpList Try.prog ops Q rest (a.put o.dst (.slice (some ⟨g, 0, none⟩) (n + 1) cap)) w') : wpList Try.prog ops Q (o :: rest) a w := by
  obtain ⟨i0, hi, hz0, hz1, hz2⟩ := info_parts info_intc
  exact wpList_plain hgd fun _ hK => wp_append_lies w s x 34 ho base 3 i0 _ 1 8 Try.underlying34 hi hz0 hz1 hz2 rfl (by decide) v n xs hs hown ⟨p, 0, none⟩ 1 1 [keyN i] hx rfl (fun j u hu => World.news_of_block hB j u (by simpa using hu)) (fun u hu => by simp at hu; subst hu; rfl) (by decide) (by unfold maxLen; omega) (by omega) hbase w.heap.size rfl (fun g cap w' q1 q2 q3 q4 => hK _ _ (h g cap w' q1 q2 q3 q4))

end Go.Proofs.Ytfaipdifkmjdeaa
