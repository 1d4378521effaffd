/- What a function hands back that has a result in a block of its own, and others in temporaries. No condition but those that each lemma names. -/
import Derived.Test.YtfaipdifkmjdeaaMem
import Derived.Laws.ResultCell
namespace Go.Proofs.Ytfaipdifkmjdeaa
open Go.RowKit

theorem results_row_tmp {P : Program} {fn : Func} {p u : Tmp} {ty : TypeId} (h : fn.results = #[.cell p ty, .tmp u]) (tmps : Array Value) (w : World) (g : Nat) (t : TypeId) (cs : Array Value) (fr : Nat × Nat) (d : TypeDesc)
    (hp : tmps.getD p undef = .pointer (some ⟨g, 0, none⟩)) (hg : w.heap[g]? = some (.cells cs t fr))
    (hu : P.underlying ty = some d) (hd : (match d with | .struct _ | .array _ _ => true | _ => false) = true) (hi : (P.info? ty).map (·.size) = some cs.size) :
    (results fn tmps).run P w = .ok (.tuple #[.agg cs, tmps.getD u undef]) w := by
  rw [results_cell_tmp h, hp]
  simp [asAddr, run_loadVar_row w g t ty cs fr d hg hu hd hi]

end Go.Proofs.Ytfaipdifkmjdeaa

/- Guarded operations of a region that goes in its order. No condition but those that each lemma names. -/
namespace Go.Proofs.Ytfaipdifkmjdeaa
open Go.RowKit

/-- A region whose operations go in their order: the row of them has a name, so that nothing is reckoned ahead of time. -/
theorem region_named {P : Program} {Q : Exit → Act → World → Prop} {a : Act} {w : World} {id : Nat} {l : List Oper} (h : ∀ O : Array Oper, O = l.toArray → wpList P O Q l a w) : (Code.region id l.toArray false).wp P Q a w :=
  wp_region_lit (h _ rfl)
/-- An operation that hangs on a guard: where it says yes, by its value, or by its call; and where it says no. -/
theorem wpList_val {P : Program} {ops : Array Oper} {rest : List Oper} {o : Oper} {a : Act} {w : World} {Q : Exit → Act → World → Prop} (hw : Region.wanted o (yielded ops a.tmps) = true) (v : Value)
    (hv : ∀ K : Act → World → Prop, K (a.put o.dst v) w → o.wp P a w K Q) (h : wpList P ops Q rest (a.put o.dst v) w) : wpList P ops Q (o :: rest) a w :=
  wpList_step fun K hK => by rw [if_pos hw]; exact hv K (hK _ _ h)
theorem wpList_want {P : Program} {ops : Array Oper} {rest : List Oper} {o : Oper} {a : Act} {w : World} {Q : Exit → Act → World → Prop} (hw : Region.wanted o (yielded ops a.tmps) = true)
    (h : ∀ K : Act → World → Prop, (∀ a w, wpList P ops Q rest a w → K a w) → o.wp P a w K Q) : wpList P ops Q (o :: rest) a w :=
  wpList_step fun K hK => by rw [if_pos hw]; exact h K hK
theorem wpList_skip {P : Program} {ops : Array Oper} {rest : List Oper} {o : Oper} {a : Act} {w : World} {Q : Exit → Act → World → Prop} (hw : Region.wanted o (yielded ops a.tmps) = false)
    (h : wpList P ops Q rest (a.put o.dst undef) w) : wpList P ops Q (o :: rest) a w :=
  wpList_step fun K hK => by rw [hw, if_neg (by simp)]; exact hK _ _ h

end Go.Proofs.Ytfaipdifkmjdeaa

/- A number under a mask. -/
namespace Go.Proofs.Ytfaipdifkmjdeaa
open Go.RowKit

theorem and_mask (M : Nat) (hM : M < 4611686018427387904) (a : Int) : ∃ j : Nat, j ≤ M ∧ bits .and .i64 a (M : Int) = (j : Int) := by
  have hm : (BitVec.ofInt 64 (M : Int)).toNat = M := by rw [BitVec.toNat_ofInt]; omega
  have h : (BitVec.ofInt 64 a &&& BitVec.ofInt 64 (M : Int)).toNat ≤ M := by
    rw [BitVec.toNat_and, hm]
    exact Nat.and_le_right
  refine ⟨(BitVec.ofInt 64 a &&& BitVec.ofInt 64 (M : Int)).toNat, h, ?_⟩
  show IntKind.i64.wrap (((BitVec.ofInt 64 a &&& BitVec.ofInt 64 (M : Int)).toNat : Nat) : Int) = _
  rw [IntKind.wrap_i64]
  omega

end Go.Proofs.Ytfaipdifkmjdeaa
