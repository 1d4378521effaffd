/- Lemmas. -/
import Derived.Stop.BytesEq
import Derived.Laws.StructEq
import Derived.Deep.RegionHeld3
import Derived.Deep.DrawnRows
import Derived.Test.YtegbbkgmiklhcaaGreatDoorOData
namespace Go.Proofs.YtegbbkgmiklhcaaGreatDoor
open Go.RowKit
theorem ze7 {P:Program} {ops:Array Oper} {S:World→Prop} {op:Oper} {a:Act} (hw:Region.wanted op (yielded ops a.tmps)=true) (t t' : TypeId) (x y:Operand) (ho:op.op = .binOp .eql t x y t') (X Z:Array Value) (r:Bool)
  (hx:a.eval x = .agg X) (hy:a.eval y = .agg Z) (hm:P.eqGuardType P.depth t=false) (hq:∀ w:World,(binOp .eql t (.agg X) (.agg Z)).run P w = .ok (.bool r) w):YieldsIf P ops S op (.bool r) a :=
 .inl ⟨hw,fun w _=>by
  unfold execOp
  simp only[ho,hx,hy,Sem.run_bind,run_eqGuard_agg w .eql t x y X Z hm,hq,Result.andThen_ok]
  rfl⟩
theorem zbp {P:Program} {ops:Array Oper} {S:World→Prop} {op:Oper} {a:Act} (hw:Region.wanted op (yielded ops a.tmps)=true) (t:TypeId) (parts:Array (Nat × Operand)) (ho:op.op = .build t parts) (cells:Array Value)
  (hf:P.built t (parts.map fun (i,x)=>(i,a.eval x)).toList=some cells):YieldsIf P ops S op (.agg cells) a :=
 .inl ⟨hw,fun w _=>by
  unfold execOp
  simp only[ho,Sem.run_bind,run_build w t _ cells hf,Result.andThen_ok]
  rfl⟩
theorem zjg {P:Program} (w:World) (d:Nat) (X Z:Array Value) (f:Field) (fs:List Field) (x z:Value) (b:Bool) (hn:(f.name == "_")=false)
  (p:(part f.type X f.offset).run P w = .ok x w) (q:(part f.type Z f.offset).run P w = .ok z w) (e:(Op.equalIn d f.type x z).run P w = .ok b w) :
  (Op.eqFields d X Z (f::fs)).run P w=(if b then (Op.eqFields d X Z fs).run P w else .ok false w):=by
 have hn' : f.name ≠ "_" := by simpa using hn
 rw[Op.eqFields,if_pos hn']
 simp only[Sem.run_bind,p,q,e,Result.andThen_ok,Sem.run_ite]
 cases b <;> rfl
theorem pr0 (w:World) (k:Int) (s:ByteArray):(part 3 #[.int .i64 k,.string s] 0).run Tryz.prog w = .ok (.int .i64 k) w:=by kernel_rfl
theorem pr1 (w:World) (k:Int) (s:ByteArray):(part 9 #[.int .i64 k,.string s] 1).run Tryz.prog w = .ok (.string s) w:=by kernel_rfl
theorem zkj:Tryz.prog.underlying 44=some (.struct (Tryz.prog.fieldsOf 44)):=by kernel_rfl
theorem zou:Tryz.prog.stoodInHeld 44=false:=by kernel_rfl
theorem zbk:Tryz.prog.eqGuardType Tryz.prog.depth 44=false:=by kernel_rfl
theorem zkk:∃ f0 f1:Field,(Tryz.prog.fieldsOf 44).toList=[f0,f1]∧((f0.name == "_")=false∧f0.type=3∧f0.offset=0)∧((f1.name == "_")=false∧f1.type=9∧f1.offset=1):=by
 refine ⟨_,_,by rw[Program.fieldsOf,Tryz.underlying44],⟨by decide,rfl,rfl⟩,⟨by decide,rfl,rfl⟩⟩
theorem zf7 (w:World) (k k2:Int) (s s2:ByteArray):(Op.equalIn 10000 44 (.agg #[.int .i64 k,.string s]) (.agg #[.int .i64 k2,.string s2])).run Tryz.prog w = .ok (k == k2 && s.toList == s2.toList) w:=by
 obtain ⟨f0,f1,hf,⟨n0,t0,o0⟩,⟨n1,t1,o1⟩⟩:=zkk
 have e0:(Op.equalIn 9999 3 (.int .i64 k) (.int .i64 k2)).run Tryz.prog w = .ok (k == k2) w:=run_equalIn_int w 9998 _ _ _ _ _ Tryz.underlying3
 have e1:(Op.equalIn 9999 9 (.string s) (.string s2)).run Tryz.prog w = .ok (s.toList == s2.toList) w:=run_equalIn_string w 9998 _ _ _ Tryz.underlying9
 rw[run_equalIn_struct w 9999 _ _ _ zkj zou,hf,
  zjg w 9999 _ _ f0 [f1] _ _ _ n0 (by rw[t0,o0];exact pr0 w k s) (by rw[t0,o0];exact pr0 w k2 s2) (by rw[t0];exact e0)]
 by_cases hk:k=k2
 ·rw[if_pos (by simpa using hk),zjg w 9999 _ _ f1 [] _ _ _ n1 (by rw[t1,o1];exact pr1 w k s) (by rw[t1,o1];exact pr1 w k2 s2) (by rw[t1];exact e1)]
  rw[show (k == k2)=true by simpa using hk,Bool.true_and]
  cases (s.toList == s2.toList) <;> rfl
 ·rw[if_neg (by simpa using hk),show (k == k2)=false by simpa using hk,Bool.false_and]
theorem zkl {l:List UInt8} {e n:Int} (h:(numS l e n).2.2=0):e=0:=by
 unfold numS at h
 split at h
 ·assumption
 ·exact h
theorem zdb {l:List UInt8} {e:Int} (h:(zal l e).2.2=0):e=0:=by
 unfold zal at h
 split at h
 ·assumption
 ·exact h
theorem zov {l:List UInt8} {e n:Int} (h:(rawS l e n).2.2=0):e=0:=by
 unfold rawS at h
 split at h
 ·assumption
 ·exact h
theorem ze8 {l:List UInt8} {e:Int} (h:(rawS l e 32).2.2=0):(rawS l e 32).1.length=32:=by
 unfold rawS at h ⊢
 split
 ·split
  ·rename_i h1 h2
   rw[if_pos h1,if_pos h2] at h
   exact absurd h (by decide)
  ·rename_i h2
   simp at h2 ⊢
   omega
 ·rename_i h1
  rw[if_neg h1] at h
  exact absurd h h1
theorem zil {l:List UInt8} {e:Int} (h:zb4 l e=0):l=[]∧e=0:=by
 unfold zb4 at h
 split at h
 ·split at h
  ·exact ⟨by assumption,by assumption⟩
  ·exact absurd h (by decide)
 ·rename_i h1
  exact absurd h h1
def rdM (d:List UInt8):MrkL × List UInt8 × Int :=
 let t:=rawS d 0 32
 let a:=zal t.2.1 t.2.2
 let x:=zal a.2.1 a.2.2
 (⟨t.1,a.1,x.1⟩,x.2)
theorem zkm {x d:List UInt8} (h:fitB x=(0,d)):d=x∧x.length≤16384:=by
 unfold fitB at h
 split at h
 ·exact absurd (congrArg Prod.fst h) (by simp)
 ·exact ⟨(congrArg Prod.snd h).symm,by omega⟩
theorem zq6 {m:MrkL} {d:List UInt8} (h:zcp m=(0,d)):d=mrkB m∧m.name.length≤16384∧m.text.length≤16384:=by
 unfold zcp at h
 split at h
 ·obtain ⟨h1,h2⟩:=zkm h
  unfold mrkB at h2
  simp only[List.length_append,zbg] at h2
  exact ⟨h1,by omega,by omega⟩
 ·exact absurd (congrArg Prod.fst h) (by simp)
theorem zlu {c:ChgL} {d:List UInt8} (h:zce c=(0,d)):d=chgB c∧c.pars.length≤4∧c.author.length≤16384∧c.text.length≤16384:=by
 unfold zce at h
 split at h
 ·exact absurd (congrArg Prod.fst h) (by simp)
 ·split at h
  ·obtain ⟨h1,h2⟩:=zkm h
   unfold chgB at h2
   simp only[List.length_append,zbg] at h2
   exact ⟨h1,by omega,by omega,by omega⟩
  ·exact absurd (congrArg Prod.fst h) (by simp)
theorem zq7 {l:List UInt8} (h:zbv l=true):l.length≤64:=by
 unfold zbv at h
 simp only[Bool.and_eq_true,decide_eq_true_eq] at h
 omega
theorem zjh {es:List EntL} {d:List UInt8} (h:za4 es=(0,d)):d=zid es∧es.length≤32∧∀ e∈es,e.name.length≤64:=by
 unfold za4 at h
 split at h
 ·exact absurd (congrArg Prod.fst h) (by simp)
 ·split at h
  ·rename_i hg
   obtain ⟨h1,h2⟩:=zkm h
   refine ⟨h1,by omega,fun e he => ?_⟩
   obtain ⟨i,hi,rfl⟩:=List.getElem_of_mem he
   have h3:=List.all_eq_true.1 hg i (List.mem_range.2 hi)
   unfold zd2 at h3
   simp only[Bool.and_eq_true] at h3
   have h4:=zq7 h3.1
   rwa [show es.getD i default=es[i] by simp[hi]] at h4
  ·exact absurd (congrArg Prod.fst h) (by simp)
theorem zlv {d:List UInt8} : (zb4 (rdM d).2.1 (rdM d).2.2=0∧zcp (rdM d).1=(0,d))↔zcp (zbl d)=(0,d):=by
 constructor
 ·rintro ⟨h1,h2⟩
  obtain ⟨_,he⟩:=zil h1
  have e2:(zal (zal (rawS d 0 32).2.1 (rawS d 0 32).2.2).2.1 (zal (rawS d 0 32).2.1 (rawS d 0 32).2.2).2.2).2.2=0:=he
  have e3:=ze8 (zdb (zdb e2))
  have:zbl d=(rdM d).1:=by unfold zbl rdM;simp only[zdy _ e3]
  rw[this];exact h2
 ·intro h
  obtain ⟨hd,hn,hx⟩:=zq6 h
  have hok:(zbl d).target.length=32:=by unfold zbl;exact zbh _ _
  obtain ⟨m,hm⟩:∃ m,m=zbl d:=⟨_,rfl⟩
  rw[← hm] at h hd hn hx hok
  have h1:=ze5 m.target (layS m.name++(layS m.text++[])) 32 hok
  have h5:=zco m.name (layS m.text++[]) (by omega)
  have h6:=zco m.text [] (by omega)
  have e1:d=m.target++(layS m.name++(layS m.text++[])):=by rw[hd];simp[mrkB]
  have hr:rdM d=(m,[],0):=by
   unfold rdM
   rw[e1,show (32:Int)=((32:Nat):Int) from rfl]
   simp only[h1,h5,h6]
  rw[hr]
  exact ⟨rfl,h⟩
theorem zup {d:List UInt8} (h:zcp (zbl d)=(0,d)):(rdM d).1=zbl d:=by
 obtain ⟨h1,h2⟩:=zlv.2 h
 obtain ⟨_,he⟩:=zil h1
 have e2:(zal (zal (rawS d 0 32).2.1 (rawS d 0 32).2.2).2.1 (zal (rawS d 0 32).2.1 (rawS d 0 32).2.2).2.2).2.2=0:=he
 have e3:=ze8 (zdb (zdb e2))
 unfold zbl rdM;simp only[zdy _ e3]
def zgz (p:List EntL × List UInt8 × Int):List EntL × List UInt8 × Int :=
 let a:=numS p.2.1 p.2.2 1
 let b:=zal a.2.1 a.2.2
 let c:=rawS b.2.1 b.2.2 32
 (p.1++[⟨b.1,decide (a.1=1),c.1⟩],c.2)
def runR (s:List UInt8 × Int):Nat→List EntL × List UInt8 × Int
 | 0=>([],s)
 | n+1=>zgz (runR s n)
def zhj (p:List (List UInt8) × List UInt8 × Int):List (List UInt8) × List UInt8 × Int :=
 let c:=rawS p.2.1 p.2.2 32
 (p.1++[c.1],c.2)
def runQ (s:List UInt8 × Int):Nat→List (List UInt8) × List UInt8 × Int
 | 0=>([],s)
 | n+1=>zhj (runQ s n)
theorem zq8 {p:List EntL × List UInt8 × Int} (h:(zgz p).2.2=0):p.2.2=0∧zgz p=zer p:=by
 unfold zgz at h
 have e3:=ze8 h
 have e1:=zkl (zdb (zov h))
 refine ⟨e1,?_⟩
 unfold zgz zer
 simp only[zdy _ e3]
theorem zq9 {p:List (List UInt8) × List UInt8 × Int} (h:(zhj p).2.2=0):p.2.2=0∧zhj p=zjd p:=by
 unfold zhj at h
 have e3:=ze8 h
 refine ⟨zov h,?_⟩
 unfold zhj zjd
 simp only[zdy _ e3]
theorem zow {s:List UInt8 × Int} : ∀ {n:Nat},(runR s n).2.2=0→runR s n=runE s n
 | 0,_=>rfl
 | n+1,h=>by
  obtain ⟨h1,h2⟩:=zq8 (p:=runR s n) h
  rw[runR,h2,zow h1,runE]
theorem zox {s:List UInt8 × Int} : ∀ {n:Nat},(runQ s n).2.2=0→runQ s n=runP s n
 | 0,_=>rfl
 | n+1,h=>by
  obtain ⟨h1,h2⟩:=zq9 (p:=runQ s n) h
  rw[runQ,h2,zox h1,runP]
def zoy (e:Nat→Int) (n j:Nat):Prop:=j≤n∧(∀ i,i<j→e i=0)∧(j=n∨e j≠0)
theorem zlw {e:Nat→Int} {n j:Nat} (h:zoy e n j) (h0:e j=0):j=n:=by
 rcases h.2.2 with h1 | h1
 ·exact h1
 ·exact absurd h0 h1
theorem zra {d:List UInt8} {j:Nat} (hs:zoy (fun i=>(runR (numS d 0 2).2 i).2.2) (numS d 0 2).1 j) :
  ((zb4 (runR (numS d 0 2).2 j).2.1 (runR (numS d 0 2).2 j).2.2=0∧za4 (runR (numS d 0 2).2 j).1=(0,d))↔za4 (zbo d)=(0,d))∧(za4 (zbo d)=(0,d)→(runR (numS d 0 2).2 j).1=zbo d):=by
 have hfwd:(zb4 (runR (numS d 0 2).2 j).2.1 (runR (numS d 0 2).2 j).2.2=0∧za4 (runR (numS d 0 2).2 j).1=(0,d))→(runR (numS d 0 2).2 j).1=zbo d:=by
  rintro ⟨h1,h2⟩
  obtain ⟨_,he⟩:=zil h1
  have hj:=zlw hs he
  have hr:=zow he
  obtain ⟨_,h32,_⟩:=zjh h2
  have hlen:∀ (s:List UInt8 × Int) (j:Nat),(runE s j).1.length=j:=by
   intro s j
   induction j with
   | zero=>rfl
   | succ j ih=>rw[runE,zer];simp[ih]
  rw[hr,hlen] at h32
  rw[hr]
  unfold zbo
  simp only
  rw[hj] at h32 ⊢
  rw[Nat.min_eq_left h32]
 have hbwd:za4 (zbo d)=(0,d)→zb4 (runR (numS d 0 2).2 j).2.1 (runR (numS d 0 2).2 j).2.2=0∧(runR (numS d 0 2).2 j).1=zbo d:=by
  intro h
  obtain ⟨hd,h32,hnm⟩:=zjh h
  have hids:∀ e∈zbo d,e.id.length=32:=by
   have key:∀ (s:List UInt8 × Int) (j:Nat),∀ e∈(runE s j).1,e.id.length=32:=by
    intro s j
    induction j with
    | zero=>intro e he;simp[runE] at he
    | succ j ih =>
     intro e he
     rw[runE,zer] at he
     simp only[List.mem_append,List.mem_singleton] at he
     rcases he with he | rfl
     ·exact ih e he
     ·exact zbh _ _
   exact key _ _
  obtain ⟨es,hes⟩:∃ es,es=zbo d:=⟨_,rfl⟩
  rw[← hes] at hd h32 hnm hids ⊢
  have hn:=zi9 es.length (by omega) (es.flatMap entB)
  have hd2:d=lb es.length 2++es.flatMap entB:=hd
  rw[← hd2] at hn
  rw[hn] at hs ⊢
  simp only at hs ⊢
  have hok:∀ e∈es,e.Ok:=fun e he=>⟨hids e he,by have:=hnm e he;omega⟩
  have hrun:∀ k,k≤es.length→runR (es.flatMap entB,0) k=(es.take k,(es.drop k).flatMap entB,0):=by
   intro k
   induction k with
   | zero=>intro _;simp[runR]
   | succ k ih =>
    intro hk
    have h1:=zls es [] hok (k+1) hk
    rw[List.append_nil,List.append_nil] at h1
    have h0:=zls es [] hok k (by omega)
    rw[List.append_nil,List.append_nil] at h0
    have hE:zer (es.take k,(es.drop k).flatMap entB,0)=(es.take (k+1),(es.drop (k+1)).flatMap entB,0):=by rw[← h0,← h1];rfl
    rw[runR,ih (by omega)]
    have hlay:zgz (es.take k,(es.drop k).flatMap entB,0)=zer (es.take k,(es.drop k).flatMap entB,0):=by
     rw[List.drop_eq_getElem_cons (by omega),List.flatMap_cons]
     have hk2:=hok _ (List.getElem_mem (l:=es) (n:=k) (by omega))
     obtain ⟨E,hEE⟩:∃ E,E=es[k]:=⟨_,rfl⟩
     rw[← hEE] at hk2 ⊢
     obtain ⟨name,dir,id⟩:=E
     have q1:=ze6 (dirN dir) (by unfold dirN;split <;> omega) (layS name++(id++(es.drop (k+1)).flatMap entB))
     have q2:=zco name (id++(es.drop (k+1)).flatMap entB) hk2.2
     have q3:=ze5 id ((es.drop (k+1)).flatMap entB) 32 hk2.1
     have e1:entB ⟨name,dir,id⟩++(es.drop (k+1)).flatMap entB=lb (dirN dir) 1++(layS name++(id++(es.drop (k+1)).flatMap entB)):=by simp[entB]
     unfold zgz zer
     simp only[e1,q1,q2]
     rw[show (32:Int)=((32:Nat):Int) from rfl,q3]
     simp only[zdy _ hk2.1]
    rw[hlay,hE]
  have hj:j=es.length:=by
   rcases hs.2.2 with h1 | h1
   ·exact h1
   ·have:=hrun j hs.1
    have h2:(runR (es.flatMap entB,0) j).2.2=0:=by rw[this]
    exact absurd h2 h1
  rw[hj,hrun _ (Nat.le_refl _)]
  simp[zb4]
 exact ⟨⟨fun h=>by rw[← hfwd h];exact h.2,fun h=>⟨(hbwd h).1,by rw[(hbwd h).2];exact h⟩⟩,fun h=>(hbwd h).2⟩
end Go.Proofs.YtegbbkgmiklhcaaGreatDoor
