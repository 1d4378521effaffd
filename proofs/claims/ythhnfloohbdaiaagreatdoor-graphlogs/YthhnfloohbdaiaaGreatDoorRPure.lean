/- Lemmas. -/
import Derived.Test.YthhnfloohbdaiaaGreatDoorMNts
import Derived.Test.YthhnfloohbdaiaaGreatDoorNLetR
import Derived.Test.YthhnfloohbdaiaaGreatDoorNLessR
import Derived.Deep.MidRow
import Derived.Laws.AppendOwnNone
namespace Go.Proofs.YthhnfloohbdaiaaGreatDoor
open Go.RowKit
structure EntL where
 name:List UInt8
 dir:Bool
 id:List UInt8
deriving Inhabited,DecidableEq
structure ChgL where
 tree:List UInt8
 pars:List (List UInt8)
 time:Nat
 author:List UInt8
 text:List UInt8
deriving Inhabited,DecidableEq
structure MrkL where
 target:List UInt8
 name:List UInt8
 text:List UInt8
deriving Inhabited,DecidableEq
def dirN (b:Bool):Nat:=if b then 1 else 0
def entB (e:EntL):List UInt8:=lb (dirN e.dir) 1++layS e.name++e.id
def zhx (es:List EntL):List UInt8:=lb es.length 2++es.flatMap entB
def chgB (c:ChgL):List UInt8:=c.tree++lb c.pars.length 1++c.pars.flatten++lb c.time 8++layS c.author++layS c.text
def mrkB (m:MrkL):List UInt8:=m.target++layS m.name++layS m.text
def zep (es:List EntL) (i:Nat):Bool:=zce (es.getD i default).name && (decide (i=0) || za8 (es.getD (i - 1) default).name (es.getD i default).name)
def zc2 (es:List EntL) (n:Nat):Bool:=(List.range n).all (zep es)
def zg8 (ps:List (List UInt8)) (i:Nat):Bool := !((ps.take i).contains (ps.getD i []))
def zdv (ps:List (List UInt8)) (n:Nat):Bool:=(List.range n).all (zg8 ps)
def fitB (d:List UInt8):Int × List UInt8:=if 16384<d.length then (3,[]) else (0,d)
def za9 (es:List EntL):Int × List UInt8:=if 32<es.length then (3,[]) else if zc2 es es.length=true then fitB (zhx es) else (2,[])
def zcf (c:ChgL):Int × List UInt8:=if 4<c.pars.length then (3,[]) else if zdv c.pars c.pars.length=true then fitB (chgB c) else (2,[])
def zcv (m:MrkL):Int × List UInt8:=if zec m.name=2 then fitB (mrkB m) else (2,[])
theorem zee (es:List EntL) (n:Nat):zc2 es (n+1)=(zc2 es n && zep es n):=by
 simp[zc2,List.range_succ]
theorem zhy (ps:List (List UInt8)) (n:Nat):zdv ps (n+1)=(zdv ps n && zg8 ps n):=by
 simp[zdv,List.range_succ]
theorem zgr {f:Nat→Bool} {n i:Nat} (h:i<n) (hf:f i=false):(List.range n).all f=false:=by
 rw[List.all_eq_false]
 exact ⟨i,List.mem_range.2 h,by simp[hf]⟩
def zc1 (x:List UInt8):List UInt8:=x++List.replicate (32 - x.length) 0
def zfj (p:List EntL × List UInt8 × Int):List EntL × List UInt8 × Int :=
 let a:=numS p.2.1 p.2.2 1
 let b:=zap a.2.1 a.2.2
 let c:=rawS b.2.1 b.2.2 32
 (p.1++[⟨b.1,decide (a.1=1),zc1 c.1⟩],c.2)
def runE (s:List UInt8 × Int):Nat→List EntL × List UInt8 × Int
 | 0=>([],s)
 | n+1=>zfj (runE s n)
def zj3 (p:List (List UInt8) × List UInt8 × Int):List (List UInt8) × List UInt8 × Int :=
 let c:=rawS p.2.1 p.2.2 32
 (p.1++[zc1 c.1],c.2)
def runP (s:List UInt8 × Int):Nat→List (List UInt8) × List UInt8 × Int
 | 0=>([],s)
 | n+1=>zj3 (runP s n)
def zbz (d:List UInt8):List EntL:=let a:=numS d 0 2;(runE a.2 (min a.1 32)).1
def zbh (d:List UInt8):ChgL :=
 let t:=rawS d 0 32
 let n:=numS t.2.1 t.2.2 1
 let p:=runP n.2 (min n.1 4)
 let m:=numS p.2.1 p.2.2 8
 let a:=zap m.2.1 m.2.2
 let x:=zap a.2.1 a.2.2
 ⟨zc1 t.1,p.1,m.1,a.1,x.1⟩
def zb2 (d:List UInt8):MrkL :=
 let t:=rawS d 0 32
 let a:=zap t.2.1 t.2.2
 let x:=zap a.2.1 a.2.2
 ⟨zc1 t.1,a.1,x.1⟩
def zeq (d:List UInt8):Option (List EntL):=if za9 (zbz d)=(0,d) then some (zbz d) else none
def zfk (d:List UInt8):Option ChgL:=if zcf (zbh d)=(0,d) then some (zbh d) else none
def zi9 (d:List UInt8):Option MrkL:=if zcv (zb2 d)=(0,d) then some (zb2 d) else none
def errO {α:Type} (o:Option α):Int:=if o.isSome then 0 else 11
def zau (k:Int) (d:List UInt8):Int :=
 if k<1∨4<k then 2 else if 16384<d.length then 3 else if k=2 then errO (zeq d) else if k=3 then errO (zfk d) else if k=4 then errO (zi9 d) else 0
def zbm (k:Int) (d:List UInt8):List (List UInt8) :=
 if zau k d≠0 then [] else if k=2 then ((zeq d).getD []).map (·.id) else if k=3 then ((zfk d).getD default).tree::((zfk d).getD default).pars else if k=4 then [((zi9 d).getD default).target] else []
def putL (k:Int) (d:List UInt8):List UInt8:=[UInt8.ofInt k]++layS d
theorem zef (x m:List UInt8) (n:Nat) (h:x.length=n):rawS (x++m) 0 (n:Int)=(x,m,0):=by
 unfold rawS
 rw[if_pos rfl,if_neg (by simp;omega)]
 simp[← h]
theorem zf4 (v:Nat) (h:v<256) (m:List UInt8):numS (lb v 1++m) 0 1=(v,m,0):=by
 have hnb:nb 1=1:=by decide
 have hl:=zbs v 1
 unfold numS
 rw[if_pos rfl,hnb,if_neg (by rw[List.length_append];omega),List.take_append_of_le_length (by omega),List.take_of_length_le (by omega),zt8,Nat.mod_eq_of_lt (by omega),List.drop_append_of_le_length (by omega),List.drop_of_length_le (by omega)]
 rfl
theorem zdg (x:List UInt8) (h:x.length=32):zc1 x=x:=by simp[zc1,h]
theorem zhz (x:List UInt8) (h:x.length≤32):(zc1 x).length=32:=by simp[zc1];omega
theorem zgs (l:List UInt8) (e:Int) (n:Nat):(rawS l e (n:Int)).1.length≤n:=by
 unfold rawS
 repeat' split
 all_goals simp
 omega
theorem zbu (l:List UInt8) (e:Int):(zc1 (rawS l e 32).1).length=32:=zhz _ (zgs l e 32)
theorem zcu (l:List UInt8) (e n:Int):(rawS l e n).2.1.length≤l.length:=by
 unfold rawS
 repeat' split
 all_goals simp
theorem zcr (l:List UInt8) (e:Int):(zap l e).1.length≤l.length:=by
 unfold zap
 repeat' split
 all_goals simp
 omega
def EntL.Ok (e:EntL):Prop:=e.id.length=32∧e.name.length≤65536
theorem zq5 (acc:List EntL) (e:EntL) (m:List UInt8) (h:e.Ok):zfj (acc,entB e++m,0)=(acc++[e],m,0):=by
 obtain ⟨name,dir,id⟩:=e
 have h1:=zf4 (dirN dir) (by unfold dirN;split <;> omega) (layS name++(id++m))
 have h2:=zcx name (id++m) h.2
 have h3:=zef id m 32 h.1
 have h4:=zdg id h.1
 have e1:entB ⟨name,dir,id⟩++m=lb (dirN dir) 1++(layS name++(id++m)):=by simp[entB]
 have h5:decide (dirN dir=1)=dir:=by cases dir <;> rfl
 unfold zfj
 simp only[e1,h1,h2]
 rw[show (32:Int)=((32:Nat):Int) from rfl,h3]
 simp only[h4,h5]
theorem znp (es:List EntL) (m:List UInt8) (h:∀ e∈es,e.Ok):∀ k,k≤es.length→runE (es.flatMap entB++m,0) k=(es.take k,(es.drop k).flatMap entB++m,0):=by
 intro k
 induction k with
 | zero=>intro _;simp[runE]
 | succ k ih =>
  intro hk
  have h1:=ih (by omega)
  rw[runE,h1,List.drop_eq_getElem_cons (by omega),List.flatMap_cons,List.append_assoc,zq5 _ _ _ (h _ (List.getElem_mem _)),List.take_succ_eq_append_getElem (by omega)]
theorem zud (ps:List (List UInt8)) (m:List UInt8) (h:∀ x∈ps,x.length=32):∀ k,k≤ps.length→runP (ps.flatten++m,0) k=(ps.take k,(ps.drop k).flatten++m,0):=by
 intro k
 induction k with
 | zero=>intro _;simp[runP]
 | succ k ih =>
  intro hk
  have h1:=ih (by omega)
  have h32:=h _ (List.getElem_mem (l:=ps) (n:=k) (by omega))
  have h3:=zef (ps[k]) ((ps.drop (k+1)).flatten++m) 32 h32
  rw[runP,h1,List.drop_eq_getElem_cons (by omega),List.flatten_cons,List.append_assoc]
  unfold zj3
  simp only
  rw[show (32:Int)=((32:Nat):Int) from rfl,h3,zdg _ h32,List.take_succ_eq_append_getElem (by omega)]
def ChgL.Ok (c:ChgL):Prop:=c.tree.length=32∧(∀ x∈c.pars,x.length=32)∧c.time<18446744073709551616∧c.author.length≤65536∧c.text.length≤65536
def MrkL.Ok (m:MrkL):Prop:=m.target.length=32∧m.name.length≤65536∧m.text.length≤65536
theorem zq6 (c:ChgL) (hn:c.pars.length≤4) (h:c.Ok):zbh (chgB c)=c:=by
 obtain ⟨tree,pars,time,author,text⟩:=c
 obtain ⟨ht,hp,hm,ha,hx⟩:=h
 simp only at ht hp hm ha hx hn
 have e1:chgB ⟨tree,pars,time,author,text⟩=tree++(lb pars.length 1++(pars.flatten++(lb time 8++(layS author++(layS text++[]))))):=by simp[chgB]
 have h1:=zef tree (lb pars.length 1++(pars.flatten++(lb time 8++(layS author++(layS text++[]))))) 32 ht
 have h2:=zf4 pars.length (by omega) (pars.flatten++(lb time 8++(layS author++(layS text++[]))))
 have h3:=zud pars (lb time 8++(layS author++(layS text++[]))) hp pars.length (Nat.le_refl _)
 have h4:=zk1 time hm (layS author++(layS text++[]))
 have h5:=zcx author (layS text++[]) ha
 have h6:=zcx text [] hx
 rw[List.take_of_length_le (Nat.le_refl _),List.drop_of_length_le (Nat.le_refl _),List.flatten_nil,List.nil_append] at h3
 unfold zbh
 simp only[e1]
 rw[show (32:Int)=((32:Nat):Int) from rfl]
 simp only[h1,h2,Nat.min_eq_left hn,h3,h4,h5,h6,zdg _ ht]
def enC (e:EntL):List Value := .string (str e.name) :: .bool e.dir::e.id.map bv
def chC (c:ChgL) (po:Option Addr) (pc:Nat):List Value:=c.tree.map bv++[.slice po c.pars.length pc,.int .u64 (c.time:Int),.string (str c.author),.string (str c.text)]
def mkC (m:MrkL):List Value:=m.target.map bv++[.string (str m.name),.string (str m.text)]
theorem zgt (e:EntL) (h:e.id.length=32):(enC e).length=34:=by simp[enC,h]
theorem zd0 (c:ChgL) (po:Option Addr) (pc:Nat) (h:c.tree.length=32):(chC c po pc).length=36:=by simp[chC,h]
theorem zh0 (m:MrkL) (h:m.target.length=32):(mkC m).length=34:=by simp[mkC,h]
theorem zgu (e:EntL):∀ u∈enC e,u.oneCell'=true:=by
 intro u hu
 simp only[enC,List.mem_cons] at hu
 rcases hu with rfl | rfl | hu
 ·rfl
 ·rfl
 ·exact za6 _ u hu
theorem zeg (c:ChgL) (po:Option Addr) (pc:Nat):∀ u∈chC c po pc,u.oneCell'=true:=by
 intro u hu
 simp only[chC,List.mem_append,List.mem_cons,List.not_mem_nil,or_false] at hu
 rcases hu with hu | rfl | rfl | rfl | rfl
 ·exact za6 _ u hu
 all_goals rfl
theorem zh1 (m:MrkL):∀ u∈mkC m,u.oneCell'=true:=by
 intro u hu
 simp only[mkC,List.mem_append,List.mem_cons,List.not_mem_nil,or_false] at hu
 rcases hu with hu | rfl | rfl
 ·exact za6 _ u hu
 all_goals rfl
theorem zev (c:ChgL) (po:Option Addr) (pc:Nat) (h:c.tree.length=32):(chC c po pc)[32]? = some (.slice po c.pars.length pc)∧(chC c po pc)[33]? = some (.int .u64 (c.time:Int))∧(chC c po pc)[34]? = some (.string (str c.author))∧(chC c po pc)[35]? = some (.string (str c.text)):=by
 have hl:(c.tree.map bv).length=32:=by simp[h]
 unfold chC
 refine ⟨?_,?_,?_,?_⟩ <;> rw[List.getElem?_append_right (by omega),hl] <;> rfl
theorem zyp (m:MrkL) (h:m.target.length=32):(mkC m)[32]? = some (.string (str m.name))∧(mkC m)[33]? = some (.string (str m.text)):=by
 have hl:(m.target.map bv).length=32:=by simp[h]
 unfold mkC
 refine ⟨?_,?_⟩ <;> rw[List.getElem?_append_right (by omega),hl] <;> rfl
theorem zj4:(Tryz.prog.info? 123).map (·.size)=some 34:=by kernel_rfl
theorem zav:(Tryz.prog.info? 42).map (·.size)=some 2:=by kernel_rfl
theorem zbv:(Tryz.prog.info? 70).map (·.size)=some 36:=by kernel_rfl
theorem ze9:(Tryz.prog.info? 126).map (·.size)=some 34:=by kernel_rfl
theorem zat:(Tryz.prog.info? 33).map (·.size)=some 32:=by kernel_rfl
structure Ens (w:World) (ao:Option Addr) (c:Nat) (es:List EntL):Prop where
 zip:ao=none→es.length=0∧c=0
 fits:es.length≤c
 most:c≤maxLen
 shape:∀ ad,ao=some ad→0<es.length→ad.spot=none
 row:∀ ad,ao=some ad→∀ i (h:i<es.length),w.rangeAt ad.block (ad.off+i*34) (enC es[i])
 ids:∀ e∈es,e.id.length=32
structure Ids (w:World) (ao:Option Addr) (c:Nat) (ps:List (List UInt8)):Prop where
 zip:ao=none→ps.length=0∧c=0
 fits:ps.length≤c
 most:c≤maxLen
 shape:∀ ad,ao=some ad→0<ps.length→ad.spot=none
 row:∀ ad,ao=some ad→∀ i (h:i<ps.length),w.rangeAt ad.block (ad.off+i*32) (ps[i].map bv)
 ids:∀ x∈ps,x.length=32
theorem Ens.nil (w:World):Ens w none 0 []:=⟨fun _=>⟨rfl,rfl⟩,Nat.le_refl _,Nat.zero_le _,(fun _ e=>by cases e),(fun _ e=>by cases e),(fun _ h=>by simp at h)⟩
theorem Ids.nil (w:World):Ids w none 0 []:=⟨fun _=>⟨rfl,rfl⟩,Nat.le_refl _,Nat.zero_le _,(fun _ e=>by cases e),(fun _ e=>by cases e),(fun _ h=>by simp at h)⟩
theorem Ens.kept {w a:World} {ao:Option Addr} {c:Nat} {es:List EntL} {r:Option Nat} (h:Ens w ao c es) (g:w.grownBy a r) (hr:∀ x,r=some x→Off ao x):Ens a ao c es :=
 ⟨h.zip,h.fits,h.most,h.shape,fun ad e i hi=>zaf (h.row ad e i hi) g (fun e2=>hr _ e2.symm ad e rfl),h.ids⟩
theorem Ids.kept {w a:World} {ao:Option Addr} {c:Nat} {ps:List (List UInt8)} {r:Option Nat} (h:Ids w ao c ps) (g:w.grownBy a r) (hr:∀ x,r=some x→Off ao x):Ids a ao c ps :=
 ⟨h.zip,h.fits,h.most,h.shape,fun ad e i hi=>zaf (h.row ad e i hi) g (fun e2=>hr _ e2.symm ad e rfl),h.ids⟩
theorem Ens.none {w a:World} {ao:Option Addr} {c:Nat} {es:List EntL} (h:Ens w ao c es) (g:w.grownBy a Option.none):Ens a ao c es:=h.kept g (fun _ e=>by cases e)
theorem Ids.none {w a:World} {ao:Option Addr} {c:Nat} {ps:List (List UInt8)} (h:Ids w ao c ps) (g:w.grownBy a Option.none):Ids a ao c ps:=h.kept g (fun _ e=>by cases e)
theorem Ens.at {w:World} {ao:Option Addr} {c:Nat} {es:List EntL} (h:Ens w ao c es) (i:Nat) (hi:i<es.length):∃ b o,ao=some ⟨b,o,Option.none⟩∧∀ k (hk:k<es.length),w.rangeAt b (o+k*34) (enC es[k]):=by
 obtain ⟨ad,had⟩:∃ ad,ao=some ad:=by
  cases ao with
  | none=>have:=(h.zip rfl).1;omega
  | some ad=>exact ⟨ad,rfl⟩
 have hs:=h.shape ad had (by omega)
 have h0:=h.row ad had
 obtain ⟨b,o,s⟩:=ad
 simp only at hs h0
 subst hs
 exact ⟨b,o,had,h0⟩
theorem Ids.at {w:World} {ao:Option Addr} {c:Nat} {ps:List (List UInt8)} (h:Ids w ao c ps) (i:Nat) (hi:i<ps.length):∃ b o,ao=some ⟨b,o,Option.none⟩∧∀ k (hk:k<ps.length),w.rangeAt b (o+k*32) (ps[k].map bv):=by
 obtain ⟨ad,had⟩:∃ ad,ao=some ad:=by
  cases ao with
  | none=>have:=(h.zip rfl).1;omega
  | some ad=>exact ⟨ad,rfl⟩
 have hs:=h.shape ad had (by omega)
 have h0:=h.row ad had
 obtain ⟨b,o,s⟩:=ad
 simp only at hs h0
 subst hs
 exact ⟨b,o,had,h0⟩
theorem Ids.take {w:World} {ao:Option Addr} {c:Nat} {ps:List (List UInt8)} (h:Ids w ao c ps) (n:Nat) (hn:n≤ps.length):Ids w ao c (ps.take n):=by
 refine ⟨(fun e => ?_),?_,h.most,(fun ad e hp=>h.shape ad e (by simp at hp;omega)),(fun ad e i hi => ?_),(fun x hx=>h.ids x (List.mem_of_mem_take hx))⟩
 ·have:=h.zip e
  exact ⟨by simp;omega,this.2⟩
 ·have:=h.fits;simp;omega
 ·have hi' : i<ps.length:=by simp at hi;omega
  have:=h.row ad e i hi'
  simpa using this
theorem Ens.own {w:World} {base:Nat} {v:Value} {es:List EntL} (h:w.ownsRow base 123 34 v es.length (es.flatMap enC)) (hi:∀ e∈es,e.id.length=32):∃ ao c,v = .slice ao es.length c∧Ens w ao c es:=by
 obtain ⟨ao,c,h1,h2,h3,h4,h5,h6⟩:=ze8 enC 34 h (fun x hx=>zgt x (hi x hx))
 exact ⟨ao,c,h1,h2,h3,h4,fun ad e _=>(h5 ad e).1,h6,hi⟩
theorem Ids.own {w:World} {base:Nat} {v:Value} {ps:List (List UInt8)} (h:w.ownsRow base 33 32 v ps.length (ps.flatMap (·.map bv))) (hi:∀ x∈ps,x.length=32):∃ ao c,v = .slice ao ps.length c∧Ids w ao c ps:=by
 obtain ⟨ao,c,h1,h2,h3,h4,h5,h6⟩:=ze8 (fun x:List UInt8=>x.map bv) 32 h (fun x hx=>by simp[hi x hx])
 exact ⟨ao,c,h1,h2,h3,h4,fun ad e _=>(h5 ad e).1,h6,hi⟩
theorem zci {w:World} {b o:Nat} {l:List UInt8} (h:w.rangeAt b o (l.map bv)) (hm:l.length≤maxLen):Bts w (some ⟨b,o,none⟩) l.length l:=by
 refine ⟨(fun e=>by cases e),Nat.le_refl _,hm,(fun ad e _=>by cases e;rfl),(fun ad e i hi => ?_)⟩
 cases e
 exact h i _ (by simp[bv,hi])
theorem zbw (b o:Nat) (W:World):(Instr.sliceAt 33 (.pointer (some ⟨b,o,none⟩)) none none none).run Tryz.prog W = .ok (.slice (some ⟨b,o,none⟩) 32 32) W:=by
 have ea:Tryz.prog.arrayLen 33=32:=by simp[Program.arrayLen,Tryz.underlying33]
 have ee:Tryz.prog.elem 33=5:=by simp[Program.elem,Tryz.underlying33]
 rw[run_sliceAt_array_all W 33 ⟨b,o,none⟩ (by rw[ea,ee];exact Tryz.underlying33),ea,ee,zbf]
 simp only[Result.andThen_ok,slicedAt,Nat.zero_mul,Nat.sub_zero]
 rw[if_neg (by omega),Addr.add_mid]
 rfl
theorem zcw {w:World} {base n k x:Nat} {t:TypeId} {v:Value} {xs:List Value} (h:w.ownsRow base t k v n xs) (e:v.ownBlock=some x) (ht:t≠5):¬ Typ w x:=by
 rcases h.2 with ⟨rfl,_⟩ | ⟨g,cap,cur,rfl,_,hh,_⟩
 ·cases e
 ·have:g=x:=by simpa[Value.ownBlock] using e
  subst this
  rintro ⟨cur2,m2,h2⟩
  rw[hh] at h2
  injection h2 with h3
  injection h3 with _ h4
  exact ht h4
theorem zbl (w:World) (t:TypeId) (Z:Array Value) (cs:List Value):∃ W,W=(w.alloc (.cells Z t)).setRow w.heap.size cs.toArray∧Blk W w.heap.size t cs∧w.grownBy W none :=
 ⟨_,rfl,by
  have h:Blk (w.alloc (.cells Z t)) w.heap.size t Z.toList:=by simpa using Blk.new w t Z.toList
  exact h.row cs,zam (zah (zab _ _) _) _ (Or.inl (Nat.le_refl _))⟩
theorem zag (w:World) (t:TypeId) (cs:List Value):∃ W,W=w.alloc (.cells cs.toArray t)∧Blk W w.heap.size t cs∧w.grownBy W none :=
 ⟨_,rfl,Blk.new w t cs,zah (zab _ _) _⟩
theorem zyq {w:World} {b o:Nat} {e:EntL} (h:w.rangeAt b o (enC e)):w.rangeAt b (o+2) (e.id.map bv):=by
 intro j v hv
 rw[show o+2+j=o+(j+2) by omega]
 exact h (j+2) v (by simpa[enC] using hv)
theorem zj5 {w:World} {b o:Nat} {c:ChgL} {po:Option Addr} {pc:Nat} (h:w.rangeAt b o (chC c po pc)):w.rangeAt b o (c.tree.map bv):=by
 intro j v hv
 refine h j v ?_
 unfold chC
 rw[List.getElem?_append_left (List.getElem?_eq_some_iff.1 hv).1]
 exact hv
theorem zk5 {w:World} {b o:Nat} {m:MrkL} (h:w.rangeAt b o (mkC m)):w.rangeAt b o (m.target.map bv):=by
 intro j v hv
 refine h j v ?_
 unfold mkC
 rw[List.getElem?_append_left (List.getElem?_eq_some_iff.1 hv).1]
 exact hv
theorem zal {w:World} {b:Nat} {t:TypeId} {vs:List Value} (h:Blk w b t vs):w.rangeAt b 0 vs:=by
 have:Blk w b t ([]++(vs++[])):=by simpa using h
 exact this.range
theorem zj6:∃ Z:Array Value,Z.size=34∧∀ w,(zeroValue 123).run Tryz.prog w = .ok (.agg Z) w:=⟨_,rfl,fun w=>(by kernel_rfl:(zeroValue 123).run Tryz.prog w = .ok (.agg (enC ⟨[],false,List.replicate 32 0⟩).toArray) w)⟩
theorem zj7:∃ Z:Array Value,Z.size=36∧∀ w,(zeroValue 70).run Tryz.prog w = .ok (.agg Z) w:=⟨_,rfl,fun w=>(by kernel_rfl:(zeroValue 70).run Tryz.prog w = .ok (.agg (chC ⟨List.replicate 32 0,[],0,[],[]⟩ none 0).toArray) w)⟩
theorem zdo:∃ Z:Array Value,Z.size=32∧∀ w,(zeroValue 33).run Tryz.prog w = .ok (.agg Z) w:=⟨_,rfl,fun w=>(by kernel_rfl:(zeroValue 33).run Tryz.prog w = .ok (.agg ((List.replicate 32 (0:UInt8)).map bv).toArray) w)⟩
theorem zoy (w:World) (k:Int) (ao:Option Addr) (c:Nat) (d:List UInt8) :
  Calls Tryz.prog 74 #[.int .i64 k,.slice ao d.length c] w fun e w'=>e = .returned (.tuple #[.agg #[.int .i64 (if (fitB d).1=0 then k else 0),(if (fitB d).1=0 then .slice ao d.length c else .slice none 0 0)],.int .i64 (fitB d).1])∧w.grownBy w' none:=by
 by_cases h:16384<d.length
 ·have e1:fitB d=(3,[]):=by simp[fitB,h]
  rw[e1]
  go_enter Tryz.func74,Tryz.ntmps74
  go_wp2
  exact bodyPost_ret (v := .tuple #[.agg #[.int .i64 0,.slice none 0 0],.int .i64 3]) (by simp[results,Tryz.results74,go_sem]) rfl ⟨rfl,zah (zab _ _) _⟩
 ·have e1:fitB d=(0,d):=by simp[fitB,h]
  rw[e1]
  go_enter Tryz.func74,Tryz.ntmps74
  go_wp2
  exact bodyPost_ret (v := .tuple #[.agg #[.int .i64 k,.slice ao d.length c],.int .i64 0]) (by simp[results,Tryz.results74,go_sem]) rfl ⟨rfl,zah (zab _ _) _⟩
theorem zoz (w:World) (ao bo:Option Addr) (c d:Nat) (l x:List UInt8) (hb:Bts w ao c l) (hx:Bts w bo d x) :
  Calls Tryz.prog 114 #[.slice ao l.length c,.slice bo x.length d] w fun e w'=>e = .returned (.bool (decide (l=x)))∧w'=w:=by
 have c1:=zaz hb
 have c2:=zaz hx
 obtain ⟨A,hA⟩:∃ A,A=str l:=⟨_,rfl⟩
 obtain ⟨B,hB⟩:∃ A,A=str x:=⟨_,rfl⟩
 obtain ⟨n,hn⟩:∃ n,n=l.length:=⟨_,rfl⟩
 obtain ⟨m,hm⟩:∃ n,n=x.length:=⟨_,rfl⟩
 rw[← hA,← hn] at c1
 rw[← hB,← hm] at c2
 rw[← hn,← hm]
 have hE:A.toList=l:=by rw[hA,za5]
 have hF:B.toList=x:=by rw[hB,za5]
 clear hA hB hn hm hb hx
 by_cases h:l=x
 ·have hT:decide (l=x)=true:=decide_eq_true h
  rw[hT]
  subst h
  go_enter Tryz.func114,Tryz.ntmps114
  go_wp2
  go_ret
  exact ⟨rfl,rfl⟩
 ·have hT:decide (l=x)=false:=decide_eq_false h
  have hT2:(l == x)=false:=by simpa using h
  rw[hT]
  go_enter Tryz.func114,Tryz.ntmps114
  go_wp2
  go_ret
  exact ⟨rfl,rfl⟩
theorem zj8 (w:World) (k m:Int) (ao bo:Option Addr) (c d:Nat) (l x:List UInt8) (hb:Bts w ao c l) (hx:Bts w bo d x) :
  Calls Tryz.prog 87 #[.agg #[.int .i64 k,.slice ao l.length c],.agg #[.int .i64 m,.slice bo x.length d]] w fun e w'=>e = .returned (.bool (decide (k=m∧l=x)))∧w.grownBy w' none:=by
 obtain ⟨n1,hn1⟩:∃ n,n=l.length:=⟨_,rfl⟩
 obtain ⟨n2,hn2⟩:∃ n,n=x.length:=⟨_,rfl⟩
 have g0:w.grownBy ((w.alloc (.cells #[.int .i64 k,.slice ao n1 c] 42)).alloc (.cells #[.int .i64 m,.slice bo n2 d] 42)) none:=zah (zah (zab _ _) _) _
 have ce:=zoz _ ao bo c d l x (hb.kept g0 (fun _ e=>by cases e)) (hx.kept g0 (fun _ e=>by cases e))
 rw[← hn1,← hn2] at ce ⊢
 clear hn1 hn2 hb hx
 by_cases h:k=m
 ·subst h
  have hd:decide (k=k∧l=x)=decide (l=x):=by simp
  rw[hd]
  obtain ⟨B,hB⟩:∃ B,B=decide (l=x):=⟨_,rfl⟩
  rw[← hB] at ce ⊢
  clear hB hd
  go_enter Tryz.func87,Tryz.ntmps87
  go_wp2_with (go_at_call 114;refine ce.mono ?_;rintro e w1 ⟨rfl,hw1⟩;subst w1;clear ce)
  go_ret
  exact ⟨rfl,g0⟩
 ·have hd:decide (k=m∧l=x)=false:=by simp[h]
  have h2:(k == m)=false:=by simpa using h
  rw[hd]
  clear ce hd
  go_enter Tryz.func87,Tryz.ntmps87
  go_wp2
  go_ret
  exact ⟨rfl,g0⟩
theorem zmb {l:List UInt8} {e n:Int} (h:(numS l e n).2.2=0):e=0:=by
 unfold numS at h
 split at h
 ·assumption
 ·exact h
theorem zdp {l:List UInt8} {e:Int} (h:(zap l e).2.2=0):e=0:=by
 unfold zap at h
 split at h
 ·assumption
 ·exact h
theorem zq7 {l:List UInt8} {e n:Int} (h:(rawS l e n).2.2=0):e=0:=by
 unfold rawS at h
 split at h
 ·assumption
 ·exact h
theorem zf5 {l:List UInt8} {e:Int} (h:(rawS l e 32).2.2=0):(rawS l e 32).1.length=32:=by
 unfold rawS at h ⊢
 split
 ·split
  ·rename_i h1 h2
   rw[if_pos h1,if_pos h2] at h
   exact absurd h (by decide)
  ·rename_i h2
   simp at h2 ⊢
   omega
 ·rename_i h1
  rw[if_neg h1] at h
  exact absurd h h1
theorem zj9 {l:List UInt8} {e:Int} (h:zd6 l e=0):l=[]∧e=0:=by
 unfold zd6 at h
 split at h
 ·split at h
  ·exact ⟨by assumption,by assumption⟩
  ·exact absurd h (by decide)
 ·rename_i h1
  exact absurd h h1
def rdM (d:List UInt8):MrkL × List UInt8 × Int :=
 let t:=rawS d 0 32
 let a:=zap t.2.1 t.2.2
 let x:=zap a.2.1 a.2.2
 (⟨t.1,a.1,x.1⟩,x.2)
theorem zmc {x d:List UInt8} (h:fitB x=(0,d)):d=x∧x.length≤16384:=by
 unfold fitB at h
 split at h
 ·exact absurd (congrArg Prod.fst h) (by simp)
 ·exact ⟨(congrArg Prod.snd h).symm,by omega⟩
theorem zue {m:MrkL} {d:List UInt8} (h:zcv m=(0,d)):d=mrkB m∧m.name.length≤16384∧m.text.length≤16384:=by
 unfold zcv at h
 split at h
 ·obtain ⟨h1,h2⟩:=zmc h
  unfold mrkB at h2
  simp only[List.length_append,zbt] at h2
  exact ⟨h1,by omega,by omega⟩
 ·exact absurd (congrArg Prod.fst h) (by simp)
theorem znq {c:ChgL} {d:List UInt8} (h:zcf c=(0,d)):d=chgB c∧c.pars.length≤4∧c.author.length≤16384∧c.text.length≤16384:=by
 unfold zcf at h
 split at h
 ·exact absurd (congrArg Prod.fst h) (by simp)
 ·split at h
  ·obtain ⟨h1,h2⟩:=zmc h
   unfold chgB at h2
   simp only[List.length_append,zbt] at h2
   exact ⟨h1,by omega,by omega,by omega⟩
  ·exact absurd (congrArg Prod.fst h) (by simp)
theorem zuf {l:List UInt8} (h:zce l=true):l.length≤64:=by
 unfold zce at h
 simp only[Bool.and_eq_true,decide_eq_true_eq] at h
 omega
theorem zk6 {es:List EntL} {d:List UInt8} (h:za9 es=(0,d)):d=zhx es∧es.length≤32∧∀ e∈es,e.name.length≤64:=by
 unfold za9 at h
 split at h
 ·exact absurd (congrArg Prod.fst h) (by simp)
 ·split at h
  ·rename_i hg
   obtain ⟨h1,h2⟩:=zmc h
   refine ⟨h1,by omega,fun e he => ?_⟩
   obtain ⟨i,hi,rfl⟩:=List.getElem_of_mem he
   have h3:=List.all_eq_true.1 hg i (List.mem_range.2 hi)
   unfold zep at h3
   simp only[Bool.and_eq_true] at h3
   have h4:=zuf h3.1
   rwa [show es.getD i default=es[i] by simp[hi]] at h4
  ·exact absurd (congrArg Prod.fst h) (by simp)
theorem znr {d:List UInt8} : (zd6 (rdM d).2.1 (rdM d).2.2=0∧zcv (rdM d).1=(0,d))↔zcv (zb2 d)=(0,d):=by
 constructor
 ·rintro ⟨h1,h2⟩
  obtain ⟨_,he⟩:=zj9 h1
  have e2:(zap (zap (rawS d 0 32).2.1 (rawS d 0 32).2.2).2.1 (zap (rawS d 0 32).2.1 (rawS d 0 32).2.2).2.2).2.2=0:=he
  have e3:=zf5 (zdp (zdp e2))
  have:zb2 d=(rdM d).1:=by unfold zb2 rdM;simp only[zdg _ e3]
  rw[this];exact h2
 ·intro h
  obtain ⟨hd,hn,hx⟩:=zue h
  have hok:(zb2 d).target.length=32:=by unfold zb2;exact zbu _ _
  obtain ⟨m,hm⟩:∃ m,m=zb2 d:=⟨_,rfl⟩
  rw[← hm] at h hd hn hx hok
  have h1:=zef m.target (layS m.name++(layS m.text++[])) 32 hok
  have h5:=zcx m.name (layS m.text++[]) (by omega)
  have h6:=zcx m.text [] (by omega)
  have e1:d=m.target++(layS m.name++(layS m.text++[])):=by rw[hd];simp[mrkB]
  have hr:rdM d=(m,[],0):=by
   unfold rdM
   rw[e1,show (32:Int)=((32:Nat):Int) from rfl]
   simp only[h1,h5,h6]
  rw[hr]
  exact ⟨rfl,h⟩
theorem zyr {d:List UInt8} (h:zcv (zb2 d)=(0,d)):(rdM d).1=zb2 d:=by
 obtain ⟨h1,h2⟩:=znr.2 h
 obtain ⟨_,he⟩:=zj9 h1
 have e2:(zap (zap (rawS d 0 32).2.1 (rawS d 0 32).2.2).2.1 (zap (rawS d 0 32).2.1 (rawS d 0 32).2.2).2.2).2.2=0:=he
 have e3:=zf5 (zdp (zdp e2))
 unfold zb2 rdM;simp only[zdg _ e3]
def zh7 (p:List EntL × List UInt8 × Int):List EntL × List UInt8 × Int :=
 let a:=numS p.2.1 p.2.2 1
 let b:=zap a.2.1 a.2.2
 let c:=rawS b.2.1 b.2.2 32
 (p.1++[⟨b.1,decide (a.1=1),c.1⟩],c.2)
def runR (s:List UInt8 × Int):Nat→List EntL × List UInt8 × Int
 | 0=>([],s)
 | n+1=>zh7 (runR s n)
def zja (p:List (List UInt8) × List UInt8 × Int):List (List UInt8) × List UInt8 × Int :=
 let c:=rawS p.2.1 p.2.2 32
 (p.1++[c.1],c.2)
def runQ (s:List UInt8 × Int):Nat→List (List UInt8) × List UInt8 × Int
 | 0=>([],s)
 | n+1=>zja (runQ s n)
theorem zug {p:List EntL × List UInt8 × Int} (h:(zh7 p).2.2=0):p.2.2=0∧zh7 p=zfj p:=by
 unfold zh7 at h
 have e3:=zf5 h
 have e1:=zmb (zdp (zq7 h))
 refine ⟨e1,?_⟩
 unfold zh7 zfj
 simp only[zdg _ e3]
theorem zuh {p:List (List UInt8) × List UInt8 × Int} (h:(zja p).2.2=0):p.2.2=0∧zja p=zj3 p:=by
 unfold zja at h
 have e3:=zf5 h
 refine ⟨zq7 h,?_⟩
 unfold zja zj3
 simp only[zdg _ e3]
theorem zq8 {s:List UInt8 × Int} : ∀ {n:Nat},(runR s n).2.2=0→runR s n=runE s n
 | 0,_=>rfl
 | n+1,h=>by
  obtain ⟨h1,h2⟩:=zug (p:=runR s n) h
  rw[runR,h2,zq8 h1,runE]
theorem zq9 {s:List UInt8 × Int} : ∀ {n:Nat},(runQ s n).2.2=0→runQ s n=runP s n
 | 0,_=>rfl
 | n+1,h=>by
  obtain ⟨h1,h2⟩:=zuh (p:=runQ s n) h
  rw[runQ,h2,zq9 h1,runP]
def zra (e:Nat→Int) (n j:Nat):Prop:=j≤n∧(∀ i,i<j→e i=0)∧(j=n∨e j≠0)
theorem zns {e:Nat→Int} {n j:Nat} (h:zra e n j) (h0:e j=0):j=n:=by
 rcases h.2.2 with h1 | h1
 ·exact h1
 ·exact absurd h0 h1
theorem zui {d:List UInt8} {j:Nat} (hs:zra (fun i=>(runR (numS d 0 2).2 i).2.2) (numS d 0 2).1 j) :
  ((zd6 (runR (numS d 0 2).2 j).2.1 (runR (numS d 0 2).2 j).2.2=0∧za9 (runR (numS d 0 2).2 j).1=(0,d))↔za9 (zbz d)=(0,d))∧(za9 (zbz d)=(0,d)→(runR (numS d 0 2).2 j).1=zbz d):=by
 have hfwd:(zd6 (runR (numS d 0 2).2 j).2.1 (runR (numS d 0 2).2 j).2.2=0∧za9 (runR (numS d 0 2).2 j).1=(0,d))→(runR (numS d 0 2).2 j).1=zbz d:=by
  rintro ⟨h1,h2⟩
  obtain ⟨_,he⟩:=zj9 h1
  have hj:=zns hs he
  have hr:=zq8 he
  obtain ⟨_,h32,_⟩:=zk6 h2
  have hlen:∀ (s:List UInt8 × Int) (j:Nat),(runE s j).1.length=j:=by
   intro s j
   induction j with
   | zero=>rfl
   | succ j ih=>rw[runE,zfj];simp[ih]
  rw[hr,hlen] at h32
  rw[hr]
  unfold zbz
  simp only
  rw[hj] at h32 ⊢
  rw[Nat.min_eq_left h32]
 have hbwd:za9 (zbz d)=(0,d)→zd6 (runR (numS d 0 2).2 j).2.1 (runR (numS d 0 2).2 j).2.2=0∧(runR (numS d 0 2).2 j).1=zbz d:=by
  intro h
  obtain ⟨hd,h32,hnm⟩:=zk6 h
  have hids:∀ e∈zbz d,e.id.length=32:=by
   have key:∀ (s:List UInt8 × Int) (j:Nat),∀ e∈(runE s j).1,e.id.length=32:=by
    intro s j
    induction j with
    | zero=>intro e he;simp[runE] at he
    | succ j ih =>
     intro e he
     rw[runE,zfj] at he
     simp only[List.mem_append,List.mem_singleton] at he
     rcases he with he | rfl
     ·exact ih e he
     ·exact zbu _ _
   exact key _ _
  obtain ⟨es,hes⟩:∃ es,es=zbz d:=⟨_,rfl⟩
  rw[← hes] at hd h32 hnm hids ⊢
  have hn:=zq0 es.length (by omega) (es.flatMap entB)
  have hd2:d=lb es.length 2++es.flatMap entB:=hd
  rw[← hd2] at hn
  rw[hn] at hs ⊢
  simp only at hs ⊢
  have hok:∀ e∈es,e.Ok:=fun e he=>⟨hids e he,by have:=hnm e he;omega⟩
  have hrun:∀ k,k≤es.length→runR (es.flatMap entB,0) k=(es.take k,(es.drop k).flatMap entB,0):=by
   intro k
   induction k with
   | zero=>intro _;simp[runR]
   | succ k ih =>
    intro hk
    have h1:=znp es [] hok (k+1) hk
    rw[List.append_nil,List.append_nil] at h1
    have h0:=znp es [] hok k (by omega)
    rw[List.append_nil,List.append_nil] at h0
    have hE:zfj (es.take k,(es.drop k).flatMap entB,0)=(es.take (k+1),(es.drop (k+1)).flatMap entB,0):=by rw[← h0,← h1];rfl
    rw[runR,ih (by omega)]
    have hlay:zh7 (es.take k,(es.drop k).flatMap entB,0)=zfj (es.take k,(es.drop k).flatMap entB,0):=by
     rw[List.drop_eq_getElem_cons (by omega),List.flatMap_cons]
     have hk2:=hok _ (List.getElem_mem (l:=es) (n:=k) (by omega))
     obtain ⟨E,hEE⟩:∃ E,E=es[k]:=⟨_,rfl⟩
     rw[← hEE] at hk2 ⊢
     obtain ⟨name,dir,id⟩:=E
     have q1:=zf4 (dirN dir) (by unfold dirN;split <;> omega) (layS name++(id++(es.drop (k+1)).flatMap entB))
     have q2:=zcx name (id++(es.drop (k+1)).flatMap entB) hk2.2
     have q3:=zef id ((es.drop (k+1)).flatMap entB) 32 hk2.1
     have e1:entB ⟨name,dir,id⟩++(es.drop (k+1)).flatMap entB=lb (dirN dir) 1++(layS name++(id++(es.drop (k+1)).flatMap entB)):=by simp[entB]
     unfold zh7 zfj
     simp only[e1,q1,q2]
     rw[show (32:Int)=((32:Nat):Int) from rfl,q3]
     simp only[zdg _ hk2.1]
    rw[hlay,hE]
  have hj:j=es.length:=by
   rcases hs.2.2 with h1 | h1
   ·exact h1
   ·have:=hrun j hs.1
    have h2:(runR (es.flatMap entB,0) j).2.2=0:=by rw[this]
    exact absurd h2 h1
  rw[hj,hrun _ (Nat.le_refl _)]
  simp[zd6]
 exact ⟨⟨fun h=>by rw[← hfwd h];exact h.2,fun h=>⟨(hbwd h).1,by rw[(hbwd h).2];exact h⟩⟩,fun h=>(hbwd h).2⟩
end Go.Proofs.YthhnfloohbdaiaaGreatDoor
