/- An append of bytes where a region draws its order, and what a row of the call's own is apart from. No condition but those that each lemma names. -/
import Derived.Test.YtfaipdifkmjdeaaMBlk
import Derived.Test.YtfaipdifkmjdeaaMLst
import Derived.Deep.AppendLies
namespace Go.Proofs.Ytfaipdifkmjdeaa
open Go.RowKit

/-- 'append(own, x...)' at a step of a region that draws its order. -/
theorem step_append_bts {w : World} {ops : Array Oper} {o : Oper} {a : Act} {K : Act → World → Prop} {Q : Exit → Act → World → Prop} {E : Prop} (hw : Region.wanted o (yielded ops a.tmps) = true) (s x : Operand)
    (ho : o.op = .call { callee := .builtin .append, args := #[s, x], argTypes := #[33, 33] })
    (base : Nat) (v : Value) (n : Nat) (xs : List Value) (hs : a.eval s = v) (hown : w.ownsRow base 5 1 v n xs)
    (ao : Option Addr) (c : Nat) (l : List UInt8) (hb : Bts w ao c l) (m : Nat) (hm : m = l.length) (hx : a.eval x = .slice ao m c) (hn : n + l.length ≤ 140737488355328) (hbase : base ≤ w.heap.size)
    (h : ∀ v' w', w'.ownsRow base 5 1 v' (n + l.length) (xs ++ l.map bv) → w.grownBy w' v.ownBlock → K (a.put o.dst v') w') :
    if Region.wanted o (yielded ops a.tmps) = true then Oper.wp Try.prog o a w K Q else E := by
  subst hm
  rw [if_pos hw]
  obtain ⟨i0, hi, hz0, hz1, hz2⟩ := info_parts info_byte
  cases ao with
  | none =>
    have hz := hb.zip rfl
    have hx0 : l = [] := List.eq_nil_of_length_eq_zero hz.1
    have hc0 := hz.2
    subst hx0 hc0
    have hrun := run_append_owned_none (P := Try.prog) (w := w) base 33 o.type 5 i0 1 Try.underlying33 hi v n xs hown
    unfold Oper.wp
    simp [execOp, ho, resolve, invoke, builtin, hs, hx, hrun, Result.andThen]
    exact h v w (by simpa using hown) (gb_refl _ _)
  | some ad =>
    exact wp_append_own w s x 33 ho base 5 i0 (.int .u8 0) 1 1 Try.underlying33 hi hz0 hz1 hz2 rfl (by decide) v n xs hs hown ad l.length c (l.map bv) hx (by simp) (hb.news ad rfl) (bv_one l) (by unfold maxLen; omega) (by omega) hbase (fun v' w' q1 q2 _ => h v' w' q1 q2)

theorem Blk.typ {w : World} {b : Nat} {t : TypeId} {cs : List Value} (h : Blk w b t cs) (ht : t ≠ 5) : ¬ Typ w b := by
  rintro ⟨cur, m, h2⟩
  unfold Blk at h
  rw [h] at h2
  injection h2 with h3
  injection h3 with _ h4
  exact ht h4

/-- 'append(own, x...)' as wpList_append_bts says it, the length by another name. -/
theorem wpList_append_btm {w : World} {ops : Array Oper} {rest : List Oper} {o : Oper} {a : Act} {Q : Exit → Act → World → Prop} (hgd : o.guard = none) (s x : Operand)
    (ho : o.op = .call { callee := .builtin .append, args := #[s, x], argTypes := #[33, 33] })
    (base : Nat) (v : Value) (n : Nat) (xs : List Value) (hs : a.eval s = v) (hown : w.ownsRow base 5 1 v n xs)
    (ao : Option Addr) (c : Nat) (l : List UInt8) (hb : Bts w ao c l) (m : Nat) (hm : m = l.length) (hx : a.eval x = .slice ao m c) (hn : n + m ≤ 140737488355328) (hbase : base ≤ w.heap.size)
    (h : ∀ v' w', w'.ownsRow base 5 1 v' (n + m) (xs ++ l.map bv) → w.grownBy w' v.ownBlock → wpList Try.prog ops Q rest (a.put o.dst v') w') : wpList Try.prog ops Q (o :: rest) a w := by
  subst hm
  exact wpList_append_bts hgd s x ho base v n xs hs hown ao c l hb hx hn hbase h

/-- No bytes yet, in memory of the call's own. -/
theorem own_new (V : World) (base : Nat) (h : base ≤ V.heap.size) : ∃ Wb, Wb = V.alloc (.cells #[] 5) ∧ Wb.ownsRow base 5 1 (.slice (some ⟨V.heap.size, 0, none⟩) 0 0) 0 [] ∧ V.grownBy Wb none :=
  ⟨_, rfl, World.ownsRow_made V #[] 0 h (by unfold maxLen; omega) rfl, gb_alloc (gb_refl _ _) _⟩
theorem own_apart {V : World} {base n : Nat} {v : Value} {xs cs : List Value} {p : Nat} {t : TypeId} (h : V.ownsRow base 5 1 v n xs) (hB : Blk V p t cs) (ht : t ≠ 5) : some p ≠ v.ownBlock := by
  rcases h.2 with ⟨rfl, _⟩ | ⟨g, cap, cur, rfl, hg, hh, _⟩
  · intro e; cases e
  · intro e
    have e2 : p = g := by simpa [Value.ownBlock] using e
    subst e2
    exact hB.typ ht ⟨cur, _, hh⟩
theorem own_keep {V V' : World} {base n : Nat} {v : Value} {xs : List Value} (h : V.ownsRow base 5 1 v n xs) (g : V.grownBy V' none) : V'.ownsRow base 5 1 v n xs :=
  h.kept g (by
    by_cases e : v.ownBlock = none
    · exact Or.inl e
    · exact Or.inr e)
theorem own_grow {u V V' : World} {n : Nat} {v : Value} {xs : List Value} (g : u.grownBy V none) (h : V.ownsRow u.heap.size 5 1 v n xs) (q : V.grownBy V' v.ownBlock) : u.grownBy V' none :=
  gb_trans g q (fun x e => Or.inl (h.lt x e).1)

end Go.Proofs.Ytfaipdifkmjdeaa
