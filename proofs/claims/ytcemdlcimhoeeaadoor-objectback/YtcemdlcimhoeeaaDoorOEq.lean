/- Two structs or arrays held against each other, and one that is built of what is known, by a fact. No condition but those that each lemma names. -/
import Derived.Test.YtcemdlcimhoeeaaDoorMem
import Derived.Stop.BytesEq
import Derived.Laws.StructEq
import Derived.Deep.RegionHeld3
import Derived.Deep.DrawnRows
import Derived.Test.YtcemdlcimhoeeaaDoorOApp
namespace Go.Proofs.YtcemdlcimhoeeaaDoor
open Go.RowKit

/-- Two structs held against each other, by what is known of that. -/
theorem wpList_same {P : Program} {ops : Array Oper} {rest : List Oper} {o : Oper} {a : Act} {w : World} {Q : Exit → Act → World → Prop} (hg : o.guard = none) (t t' : TypeId) (x y : Operand) (ho : o.op = .binOp .eql t x y t') (X Z : Array Value) (r : Bool)
    (hx : a.eval x = .agg X) (hy : a.eval y = .agg Z) (hm : P.eqGuardType P.depth t = false) (hq : (binOp .eql t (.agg X) (.agg Z)).run P w = .ok (.bool r) w)
    (h : wpList P ops Q rest (a.put o.dst (.bool r)) w) : wpList P ops Q (o :: rest) a w :=
  wpList_plain hg fun K hK => by
    unfold Oper.wp execOp
    simp only [ho, hx, hy, Sem.run_bind, run_eqGuard_agg w .eql t x y X Z hm, hq, Result.andThen_ok]
    exact hK _ _ h

/-- Two arrays held against each other, at a step of a region that draws its order. -/
theorem yieldsIf_same {P : Program} {ops : Array Oper} {S : World → Prop} {op : Oper} {a : Act} (hw : Region.wanted op (yielded ops a.tmps) = true) (t t' : TypeId) (x y : Operand) (ho : op.op = .binOp .eql t x y t') (X Z : Array Value) (r : Bool)
    (hx : a.eval x = .agg X) (hy : a.eval y = .agg Z) (hm : P.eqGuardType P.depth t = false) (hq : ∀ w : World, (binOp .eql t (.agg X) (.agg Z)).run P w = .ok (.bool r) w) : YieldsIf P ops S op (.bool r) a :=
  .inl ⟨hw, fun w _ => by
    unfold execOp
    simp only [ho, hx, hy, Sem.run_bind, run_eqGuard_agg w .eql t x y X Z hm, hq, Result.andThen_ok]
    rfl⟩
/-- An array that is built of what is known, at such a step. -/
theorem yieldsIf_built {P : Program} {ops : Array Oper} {S : World → Prop} {op : Oper} {a : Act} (hw : Region.wanted op (yielded ops a.tmps) = true) (t : TypeId) (parts : Array (Nat × Operand)) (ho : op.op = .build t parts) (cells : Array Value)
    (hf : P.built t (parts.map fun (i, x) => (i, a.eval x)).toList = some cells) : YieldsIf P ops S op (.agg cells) a :=
  .inl ⟨hw, fun w _ => by
    unfold execOp
    simp only [ho, Sem.run_bind, run_build w t _ cells hf, Result.andThen_ok]
    rfl⟩

theorem eq_one {P : Program} (w : World) (d : Nat) (X Z : Array Value) (f : Field) (fs : List Field) (x z : Value) (b : Bool) (hn : (f.name == "_") = false)
    (p : (part f.type X f.offset).run P w = .ok x w) (q : (part f.type Z f.offset).run P w = .ok z w) (e : (Op.equalIn d f.type x z).run P w = .ok b w) :
    (Op.eqFields d X Z (f :: fs)).run P w = (if b then (Op.eqFields d X Z fs).run P w else .ok false w) := by
  have hn' : f.name ≠ "_" := by simpa using hn
  rw [Op.eqFields, if_pos hn']
  simp only [Sem.run_bind, p, q, e, Result.andThen_ok, Sem.run_ite]
  cases b <;> rfl

end Go.Proofs.YtcemdlcimhoeeaaDoor

/- Two entries, or two notes, held against each other: the program's own. Of names of 32 bytes. -/
namespace Go.Proofs.YtcemdlcimhoeeaaDoor
open Go.RowKit

theorem pn0 (w : World) (e : EntL) : (part 9 (enC e).toArray 0).run Tryd.prog w = .ok (.string (str e.name)) w := by kernel_rfl
theorem pn1 (w : World) (e : EntL) : (part 4 (enC e).toArray 1).run Tryd.prog w = .ok (.bool e.dir) w := by kernel_rfl
theorem pn2 (w : World) (e : EntL) (h : e.id.length = 32) : (part 24 (enC e).toArray 2).run Tryd.prog w = .ok (.agg (e.id.map bv).toArray) w := by
  obtain ⟨name, dir, id⟩ := e
  simp only at h
  obtain ⟨a0, a1, a2, a3, a4, a5, a6, a7, a8, a9, a10, a11, a12, a13, a14, a15, a16, a17, a18, a19, a20, a21, a22, a23, a24, a25, a26, a27, a28, a29, a30, a31, rfl⟩ := list32 id h
  kernel_rfl
theorem pm0 (w : World) (m : MrkL) (h : m.target.length = 32) : (part 24 (mkC m).toArray 0).run Tryd.prog w = .ok (.agg (m.target.map bv).toArray) w := by
  obtain ⟨target, name, text⟩ := m
  simp only at h
  obtain ⟨a0, a1, a2, a3, a4, a5, a6, a7, a8, a9, a10, a11, a12, a13, a14, a15, a16, a17, a18, a19, a20, a21, a22, a23, a24, a25, a26, a27, a28, a29, a30, a31, rfl⟩ := list32 target h
  kernel_rfl
theorem pm1 (w : World) (m : MrkL) (h : m.target.length = 32) : (part 9 (mkC m).toArray 32).run Tryd.prog w = .ok (.string (str m.name)) w := by
  obtain ⟨target, name, text⟩ := m
  simp only at h
  obtain ⟨a0, a1, a2, a3, a4, a5, a6, a7, a8, a9, a10, a11, a12, a13, a14, a15, a16, a17, a18, a19, a20, a21, a22, a23, a24, a25, a26, a27, a28, a29, a30, a31, rfl⟩ := list32 target h
  kernel_rfl
theorem pm2 (w : World) (m : MrkL) (h : m.target.length = 32) : (part 9 (mkC m).toArray 33).run Tryd.prog w = .ok (.string (str m.text)) w := by
  obtain ⟨target, name, text⟩ := m
  simp only at h
  obtain ⟨a0, a1, a2, a3, a4, a5, a6, a7, a8, a9, a10, a11, a12, a13, a14, a15, a16, a17, a18, a19, a20, a21, a22, a23, a24, a25, a26, a27, a28, a29, a30, a31, rfl⟩ := list32 target h
  kernel_rfl
theorem fields_ent : Tryd.prog.underlying 41 = some (.struct (Tryd.prog.fieldsOf 41)) := by kernel_rfl
theorem held_ent : Tryd.prog.stoodInHeld 41 = false := by kernel_rfl
theorem guard_ent : Tryd.prog.eqGuardType Tryd.prog.depth 41 = false := by kernel_rfl
theorem fields_mrk : Tryd.prog.underlying 30 = some (.struct (Tryd.prog.fieldsOf 30)) := by kernel_rfl
theorem held_mrk : Tryd.prog.stoodInHeld 30 = false := by kernel_rfl
theorem guard_mrk : Tryd.prog.eqGuardType Tryd.prog.depth 30 = false := by kernel_rfl
theorem ent_fields : ∃ f0 f1 f2 : Field, (Tryd.prog.fieldsOf 41).toList = [f0, f1, f2] ∧ ((f0.name == "_") = false ∧ f0.type = 9 ∧ f0.offset = 0) ∧ ((f1.name == "_") = false ∧ f1.type = 4 ∧ f1.offset = 1) ∧ ((f2.name == "_") = false ∧ f2.type = 24 ∧ f2.offset = 2) := by
  refine ⟨_, _, _, by rw [Program.fieldsOf, Tryd.underlying41], ⟨by decide, rfl, rfl⟩, ⟨by decide, rfl, rfl⟩, ⟨by decide, rfl, rfl⟩⟩
theorem mrk_fields : ∃ f0 f1 f2 : Field, (Tryd.prog.fieldsOf 30).toList = [f0, f1, f2] ∧ ((f0.name == "_") = false ∧ f0.type = 24 ∧ f0.offset = 0) ∧ ((f1.name == "_") = false ∧ f1.type = 9 ∧ f1.offset = 32) ∧ ((f2.name == "_") = false ∧ f2.type = 9 ∧ f2.offset = 33) := by
  refine ⟨_, _, _, by rw [Program.fieldsOf, Tryd.underlying30], ⟨by decide, rfl, rfl⟩, ⟨by decide, rfl, rfl⟩, ⟨by decide, rfl, rfl⟩⟩

theorem eq_id (w : World) (xs : List UInt8) (hx : xs.length = 32) : (Op.equalIn 9999 24 (.agg (xs.map bv).toArray) (.agg (xs.map bv).toArray)).run Tryd.prog w = .ok true w := by
  have h : (Op.equalIn 9999 24 (.agg (xs.map bv).toArray) (.agg (xs.map bv).toArray)).run Tryd.prog w = .ok (xs == xs) w := run_equalIn_bytes w 9997 24 5 32 Tryd.underlying24 Tryd.underlying5 size_byte xs xs hx hx
  rw [h]; simp
theorem eq_strg (w : World) (s : ByteArray) : (Op.equalIn 9999 9 (.string s) (.string s)).run Tryd.prog w = .ok true w := by
  rw [run_equalIn_string w 9998 _ _ _ Tryd.underlying9]; simp
theorem eq_booll (w : World) (b : Bool) : (Op.equalIn 9999 4 (.bool b) (.bool b)).run Tryd.prog w = .ok true w := by cases b <;> kernel_rfl

theorem neq_ent (w : World) (e : EntL) (h : e.id.length = 32) : (binOp .neq 41 (.agg (enC e).toArray) (.agg (enC e).toArray)).run Tryd.prog w = .ok (.bool false) w := by
  obtain ⟨f0, f1, f2, hf, ⟨n0, t0, o0⟩, ⟨n1, t1, o1⟩, ⟨n2, t2, o2⟩⟩ := ent_fields
  rw [run_neq_struct, run_equalIn_struct w 9999 _ _ _ fields_ent held_ent, hf,
    eq_one w 9999 _ _ f0 [f1, f2] _ _ _ n0 (by rw [t0, o0]; exact pn0 w e) (by rw [t0, o0]; exact pn0 w e) (by rw [t0]; exact eq_strg w _), if_pos rfl,
    eq_one w 9999 _ _ f1 [f2] _ _ _ n1 (by rw [t1, o1]; exact pn1 w e) (by rw [t1, o1]; exact pn1 w e) (by rw [t1]; exact eq_booll w _), if_pos rfl,
    eq_one w 9999 _ _ f2 [] _ _ _ n2 (by rw [t2, o2]; exact pn2 w e h) (by rw [t2, o2]; exact pn2 w e h) (by rw [t2]; exact eq_id w _ h), if_pos rfl]
  rfl
theorem neq_mrk (w : World) (m : MrkL) (h : m.target.length = 32) : (binOp .neq 30 (.agg (mkC m).toArray) (.agg (mkC m).toArray)).run Tryd.prog w = .ok (.bool false) w := by
  obtain ⟨f0, f1, f2, hf, ⟨n0, t0, o0⟩, ⟨n1, t1, o1⟩, ⟨n2, t2, o2⟩⟩ := mrk_fields
  rw [run_neq_struct, run_equalIn_struct w 9999 _ _ _ fields_mrk held_mrk, hf,
    eq_one w 9999 _ _ f0 [f1, f2] _ _ _ n0 (by rw [t0, o0]; exact pm0 w m h) (by rw [t0, o0]; exact pm0 w m h) (by rw [t0]; exact eq_id w _ h), if_pos rfl,
    eq_one w 9999 _ _ f1 [f2] _ _ _ n1 (by rw [t1, o1]; exact pm1 w m h) (by rw [t1, o1]; exact pm1 w m h) (by rw [t1]; exact eq_strg w _), if_pos rfl,
    eq_one w 9999 _ _ f2 [] _ _ _ n2 (by rw [t2, o2]; exact pm2 w m h) (by rw [t2, o2]; exact pm2 w m h) (by rw [t2]; exact eq_strg w _), if_pos rfl]
  rfl

end Go.Proofs.YtcemdlcimhoeeaaDoor
