/- Lemmas. -/
import Derived.Stop.BytesEq
import Derived.Laws.StructEq
import Derived.Deep.RegionHeld3
import Derived.Deep.DrawnRows
import Derived.Test.YthhnfloohbdaiaaGreatDoorMStr
namespace Go.Proofs.YthhnfloohbdaiaaGreatDoor
open Go.RowKit
theorem zeh {P:Program} {ops:Array Oper} {S:World→Prop} {op:Oper} {a:Act} (hw:Region.wanted op (yielded ops a.tmps)=true) (t t' : TypeId) (x y:Operand) (ho:op.op = .binOp .eql t x y t') (X Z:Array Value) (r:Bool)
  (hx:a.eval x = .agg X) (hy:a.eval y = .agg Z) (hm:P.eqGuardType P.depth t=false) (hq:∀ w:World,(binOp .eql t (.agg X) (.agg Z)).run P w = .ok (.bool r) w):YieldsIf P ops S op (.bool r) a :=
 .inl ⟨hw,fun w _=>by
  unfold execOp
  simp only[ho,hx,hy,Sem.run_bind,run_eqGuard_agg w .eql t x y X Z hm,hq,Result.andThen_ok]
  rfl⟩
theorem zbe {P:Program} {ops:Array Oper} {S:World→Prop} {op:Oper} {a:Act} (hw:Region.wanted op (yielded ops a.tmps)=true) (t:TypeId) (parts:Array (Nat × Operand)) (ho:op.op = .build t parts) (cells:Array Value)
  (hf:P.built t (parts.map fun (i,x)=>(i,a.eval x)).toList=some cells):YieldsIf P ops S op (.agg cells) a :=
 .inl ⟨hw,fun w _=>by
  unfold execOp
  simp only[ho,Sem.run_bind,run_build w t _ cells hf,Result.andThen_ok]
  rfl⟩
theorem zwv {P:Program} (w:World) (d:Nat) (X Z:Array Value) (f:Field) (fs:List Field) (x z:Value) (b:Bool) (hn:(f.name == "_")=false)
  (p:(part f.type X f.offset).run P w = .ok x w) (q:(part f.type Z f.offset).run P w = .ok z w) (e:(Op.equalIn d f.type x z).run P w = .ok b w) :
  (Op.eqFields d X Z (f::fs)).run P w=(if b then (Op.eqFields d X Z fs).run P w else .ok false w):=by
 have hn' : f.name ≠ "_" := by simpa using hn
 rw[Op.eqFields,if_pos hn']
 simp only[Sem.run_bind,p,q,e,Result.andThen_ok,Sem.run_ite]
 cases b <;> rfl
theorem pr0 (w:World) (k:Int) (s:ByteArray):(part 3 #[.int .i64 k,.string s] 0).run Tryz.prog w = .ok (.int .i64 k) w:=by kernel_rfl
theorem pr1 (w:World) (k:Int) (s:ByteArray):(part 9 #[.int .i64 k,.string s] 1).run Tryz.prog w = .ok (.string s) w:=by kernel_rfl
theorem zmd:Tryz.prog.underlying 47=some (.struct (Tryz.prog.fieldsOf 47)):=by kernel_rfl
theorem zrf:Tryz.prog.stoodInHeld 47=false:=by kernel_rfl
theorem zb9:Tryz.prog.eqGuardType Tryz.prog.depth 47=false:=by kernel_rfl
theorem zme:∃ f0 f1:Field,(Tryz.prog.fieldsOf 47).toList=[f0,f1]∧((f0.name == "_")=false∧f0.type=3∧f0.offset=0)∧((f1.name == "_")=false∧f1.type=9∧f1.offset=1):=by
 refine ⟨_,_,by rw[Program.fieldsOf,Tryz.underlying47],⟨by decide,rfl,rfl⟩,⟨by decide,rfl,rfl⟩⟩
theorem zk8 (w:World) (k k2:Int) (s s2:ByteArray):(Op.equalIn 10000 47 (.agg #[.int .i64 k,.string s]) (.agg #[.int .i64 k2,.string s2])).run Tryz.prog w = .ok (k == k2 && s.toList == s2.toList) w:=by
 obtain ⟨f0,f1,hf,⟨n0,t0,o0⟩,⟨n1,t1,o1⟩⟩:=zme
 have e0:(Op.equalIn 9999 3 (.int .i64 k) (.int .i64 k2)).run Tryz.prog w = .ok (k == k2) w:=run_equalIn_int w 9998 _ _ _ _ _ Tryz.underlying3
 have e1:(Op.equalIn 9999 9 (.string s) (.string s2)).run Tryz.prog w = .ok (s.toList == s2.toList) w:=run_equalIn_string w 9998 _ _ _ Tryz.underlying9
 rw[run_equalIn_struct w 9999 _ _ _ zmd zrf,hf,
  zwv w 9999 _ _ f0 [f1] _ _ _ n0 (by rw[t0,o0];exact pr0 w k s) (by rw[t0,o0];exact pr0 w k2 s2) (by rw[t0];exact e0)]
 by_cases hk:k=k2
 ·rw[if_pos (by simpa using hk),zwv w 9999 _ _ f1 [] _ _ _ n1 (by rw[t1,o1];exact pr1 w k s) (by rw[t1,o1];exact pr1 w k2 s2) (by rw[t1];exact e1)]
  rw[show (k == k2)=true by simpa using hk,Bool.true_and]
  cases (s.toList == s2.toList) <;> rfl
 ·rw[if_neg (by simpa using hk),show (k == k2)=false by simpa using hk,Bool.false_and]
end Go.Proofs.YthhnfloohbdaiaaGreatDoor
