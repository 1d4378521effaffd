/- Two structs or arrays held against each other, and one that is built of what is known, by a fact. No condition but those that each lemma names. -/
import Derived.Test.YtfaipdifkmjdeaaMem
import Derived.Stop.BytesEq
import Derived.Laws.StructEq
import Derived.Deep.RegionHeld3
import Derived.Deep.DrawnRows
namespace Go.Proofs.Ytfaipdifkmjdeaa
open Go.RowKit

/-- Two structs held against each other, by what is known of that. -/
theorem wpList_same {P : Program} {ops : Array Oper} {rest : List Oper} {o : Oper} {a : Act} {w : World} {Q : Exit → Act → World → Prop} (hg : o.guard = none) (t t' : TypeId) (x y : Operand) (ho : o.op = .binOp .eql t x y t') (X Z : Array Value) (r : Bool)
    (hx : a.eval x = .agg X) (hy : a.eval y = .agg Z) (hm : P.eqGuardType P.depth t = false) (hq : (binOp .eql t (.agg X) (.agg Z)).run P w = .ok (.bool r) w)
    (h : wpList P ops Q rest (a.put o.dst (.bool r)) w) : wpList P ops Q (o :: rest) a w :=
  wpList_plain hg fun K hK => by
    unfold Oper.wp execOp
    simp only [ho, hx, hy, Sem.run_bind, run_eqGuard_agg w .eql t x y X Z hm, hq, Result.andThen_ok]
    exact hK _ _ h

/-- Two arrays held against each other, at a step of a region that draws its order. -/
theorem yieldsIf_same {P : Program} {ops : Array Oper} {S : World → Prop} {op : Oper} {a : Act} (hw : Region.wanted op (yielded ops a.tmps) = true) (t t' : TypeId) (x y : Operand) (ho : op.op = .binOp .eql t x y t') (X Z : Array Value) (r : Bool)
    (hx : a.eval x = .agg X) (hy : a.eval y = .agg Z) (hm : P.eqGuardType P.depth t = false) (hq : ∀ w : World, (binOp .eql t (.agg X) (.agg Z)).run P w = .ok (.bool r) w) : YieldsIf P ops S op (.bool r) a :=
  .inl ⟨hw, fun w _ => by
    unfold execOp
    simp only [ho, hx, hy, Sem.run_bind, run_eqGuard_agg w .eql t x y X Z hm, hq, Result.andThen_ok]
    rfl⟩
/-- An array that is built of what is known, at such a step. -/
theorem yieldsIf_built {P : Program} {ops : Array Oper} {S : World → Prop} {op : Oper} {a : Act} (hw : Region.wanted op (yielded ops a.tmps) = true) (t : TypeId) (parts : Array (Nat × Operand)) (ho : op.op = .build t parts) (cells : Array Value)
    (hf : P.built t (parts.map fun (i, x) => (i, a.eval x)).toList = some cells) : YieldsIf P ops S op (.agg cells) a :=
  .inl ⟨hw, fun w _ => by
    unfold execOp
    simp only [ho, Sem.run_bind, run_build w t _ cells hf, Result.andThen_ok]
    rfl⟩

theorem eq_one {P : Program} (w : World) (d : Nat) (X Z : Array Value) (f : Field) (fs : List Field) (x z : Value) (b : Bool) (hn : (f.name == "_") = false)
    (p : (part f.type X f.offset).run P w = .ok x w) (q : (part f.type Z f.offset).run P w = .ok z w) (e : (Op.equalIn d f.type x z).run P w = .ok b w) :
    (Op.eqFields d X Z (f :: fs)).run P w = (if b then (Op.eqFields d X Z fs).run P w else .ok false w) := by
  have hn' : f.name ≠ "_" := by simpa using hn
  rw [Op.eqFields, if_pos hn']
  simp only [Sem.run_bind, p, q, e, Result.andThen_ok, Sem.run_ite]
  cases b <;> rfl

end Go.Proofs.Ytfaipdifkmjdeaa
