/- Lemmas. -/
import Derived.Test.YtlifmipnoeioaaaGreatDoorMNts
import Derived.Test.YtlifmipnoeioaaaGreatDoorNLetR
import Derived.Test.YtlifmipnoeioaaaGreatDoorNLessR
import Derived.Deep.MidRow
import Derived.Test.YtlifmipnoeioaaaGreatDoorMBlk
import Derived.Test.YtlifmipnoeioaaaGreatDoorBase
import Derived.Deep.AppendLies
import Derived.Laws.AppendOwnNone
namespace Go.Proofs.YtlifmipnoeioaaaGreatDoor
open Go.RowKit
structure EntL where
 name:List UInt8
 dir:Bool
 id:List UInt8
deriving Inhabited,DecidableEq
structure ChgL where
 tree:List UInt8
 pars:List (List UInt8)
 time:Nat
 author:List UInt8
 text:List UInt8
deriving Inhabited,DecidableEq
structure MrkL where
 target:List UInt8
 name:List UInt8
 text:List UInt8
deriving Inhabited,DecidableEq
def dirN (b:Bool):Nat:=if b then 1 else 0
def entB (e:EntL):List UInt8:=lb (dirN e.dir) 1++layS e.name++e.id
def treeB (es:List EntL):List UInt8:=lb es.length 2++es.flatMap entB
def chgB (c:ChgL):List UInt8:=c.tree++lb c.pars.length 1++c.pars.flatten++lb c.time 8++layS c.author++layS c.text
def mrkB (m:MrkL):List UInt8:=m.target++layS m.name++layS m.text
def goodAt (es:List EntL) (i:Nat):Bool:=partB (es.getD i default).name && (decide (i=0) || lessL (es.getD (i - 1) default).name (es.getD i default).name)
def goodTo (es:List EntL) (n:Nat):Bool:=(List.range n).all (goodAt es)
def onceAt (ps:List (List UInt8)) (i:Nat):Bool := !((ps.take i).contains (ps.getD i []))
def onceTo (ps:List (List UInt8)) (n:Nat):Bool:=(List.range n).all (onceAt ps)
def fitB (d:List UInt8):Int × List UInt8:=if 16384<d.length then (3,[]) else (0,d)
def ofTree (es:List EntL):Int × List UInt8:=if 32<es.length then (3,[]) else if goodTo es es.length=true then fitB (treeB es) else (2,[])
def ofChg (c:ChgL):Int × List UInt8:=if 4<c.pars.length then (3,[]) else if onceTo c.pars c.pars.length=true then fitB (chgB c) else (2,[])
def ofMrk (m:MrkL):Int × List UInt8:=if kindL m.name=2 then fitB (mrkB m) else (2,[])
theorem goodTo_succ (es:List EntL) (n:Nat):goodTo es (n+1)=(goodTo es n && goodAt es n):=by
 simp [goodTo,List.range_succ]
theorem onceTo_succ (ps:List (List UInt8)) (n:Nat):onceTo ps (n+1)=(onceTo ps n && onceAt ps n):=by
 simp [onceTo,List.range_succ]
theorem all_not {f:Nat→Bool} {n i:Nat} (h:i<n) (hf:f i=false):(List.range n).all f=false:=by
 rw [List.all_eq_false]
 exact ⟨i,List.mem_range.2 h,by simp [hf]⟩
def pad32 (x:List UInt8):List UInt8:=x++List.replicate (32 - x.length) 0
def stepE (p:List EntL × List UInt8 × Int):List EntL × List UInt8 × Int :=
 let a:=numS p.2.1 p.2.2 1
 let b:=sizedS a.2.1 a.2.2
 let c:=rawS b.2.1 b.2.2 32
 (p.1++[⟨b.1,decide (a.1=1),pad32 c.1⟩],c.2)
def runE (s:List UInt8 × Int):Nat→List EntL × List UInt8 × Int
 | 0=>([],s)
 | n+1=>stepE (runE s n)
def stepP (p:List (List UInt8) × List UInt8 × Int):List (List UInt8) × List UInt8 × Int :=
 let c:=rawS p.2.1 p.2.2 32
 (p.1++[pad32 c.1],c.2)
def runP (s:List UInt8 × Int):Nat→List (List UInt8) × List UInt8 × Int
 | 0=>([],s)
 | n+1=>stepP (runP s n)
def readT (d:List UInt8):List EntL:=let a:=numS d 0 2;(runE a.2 (min a.1 32)).1
def readC (d:List UInt8):ChgL :=
 let t:=rawS d 0 32
 let n:=numS t.2.1 t.2.2 1
 let p:=runP n.2 (min n.1 4)
 let m:=numS p.2.1 p.2.2 8
 let a:=sizedS m.2.1 m.2.2
 let x:=sizedS a.2.1 a.2.2
 ⟨pad32 t.1,p.1,m.1,a.1,x.1⟩
def readM (d:List UInt8):MrkL :=
 let t:=rawS d 0 32
 let a:=sizedS t.2.1 t.2.2
 let x:=sizedS a.2.1 a.2.2
 ⟨pad32 t.1,a.1,x.1⟩
def treeOf (d:List UInt8):Option (List EntL):=if ofTree (readT d)=(0,d) then some (readT d) else none
def chgOf (d:List UInt8):Option ChgL:=if ofChg (readC d)=(0,d) then some (readC d) else none
def mrkOf (d:List UInt8):Option MrkL:=if ofMrk (readM d)=(0,d) then some (readM d) else none
def errO {α:Type} (o:Option α):Int:=if o.isSome then 0 else 11
def checkL (k:Int) (d:List UInt8):Int :=
 if k<1∨4<k then 2 else if 16384<d.length then 3 else if k=2 then errO (treeOf d) else if k=3 then errO (chgOf d) else if k=4 then errO (mrkOf d) else 0
def linksL (k:Int) (d:List UInt8):List (List UInt8) :=
 if checkL k d≠0 then [] else if k=2 then ((treeOf d).getD []).map (·.id) else if k=3 then ((chgOf d).getD default).tree::((chgOf d).getD default).pars else if k=4 then [((mrkOf d).getD default).target] else []
def putL (k:Int) (d:List UInt8):List UInt8:=[UInt8.ofInt k]++layS d
theorem rawS_lay (x m:List UInt8) (n:Nat) (h:x.length=n):rawS (x++m) 0 (n:Int)=(x,m,0):=by
 unfold rawS
 rw [if_pos rfl,if_neg (by simp;omega)]
 simp [← h]
theorem numS1_lay (v:Nat) (h:v<256) (m:List UInt8):numS (lb v 1++m) 0 1=(v,m,0):=by
 have hnb:nb 1=1:=by decide
 have hl:=lb_len v 1
 unfold numS
 rw [if_pos rfl,hnb,if_neg (by rw [List.length_append];omega),List.take_append_of_le_length (by omega),List.take_of_length_le (by omega),be_lb,Nat.mod_eq_of_lt (by omega),List.drop_append_of_le_length (by omega),List.drop_of_length_le (by omega)]
 rfl
theorem pad32_id (x:List UInt8) (h:x.length=32):pad32 x=x:=by simp [pad32,h]
theorem pad32_len (x:List UInt8) (h:x.length≤32):(pad32 x).length=32:=by simp [pad32];omega
theorem rawS_le (l:List UInt8) (e:Int) (n:Nat):(rawS l e (n:Int)).1.length≤n:=by
 unfold rawS
 repeat' split
 all_goals simp
 omega
theorem raw32_len (l:List UInt8) (e:Int):(pad32 (rawS l e 32).1).length=32:=pad32_len _ (rawS_le l e 32)
theorem rawS_len (l:List UInt8) (e n:Int):(rawS l e n).2.1.length≤l.length:=by
 unfold rawS
 repeat' split
 all_goals simp
theorem sizedS_le (l:List UInt8) (e:Int):(sizedS l e).1.length≤l.length:=by
 unfold sizedS
 repeat' split
 all_goals simp
 omega
def EntL.Ok (e:EntL):Prop:=e.id.length=32∧e.name.length≤65536
theorem stepE_lay (acc:List EntL) (e:EntL) (m:List UInt8) (h:e.Ok):stepE (acc,entB e++m,0)=(acc++[e],m,0):=by
 obtain ⟨name,dir,id⟩:=e
 have h1:=numS1_lay (dirN dir) (by unfold dirN;split <;> omega) (layS name++(id++m))
 have h2:=sizedS_lay name (id++m) h.2
 have h3:=rawS_lay id m 32 h.1
 have h4:=pad32_id id h.1
 have e1:entB ⟨name,dir,id⟩++m=lb (dirN dir) 1++(layS name++(id++m)):=by simp [entB]
 have h5:decide (dirN dir=1)=dir:=by cases dir <;> rfl
 unfold stepE
 simp only [e1,h1,h2]
 rw [show (32:Int)=((32:Nat):Int) from rfl,h3]
 simp only [h4,h5]
theorem runE_lay (es:List EntL) (m:List UInt8) (h:∀ e∈es,e.Ok):∀ k,k≤es.length→runE (es.flatMap entB++m,0) k=(es.take k,(es.drop k).flatMap entB++m,0):=by
 intro k
 induction k with
 | zero=>intro _;simp [runE]
 | succ k ih =>
  intro hk
  have h1:=ih (by omega)
  rw [runE,h1,List.drop_eq_getElem_cons (by omega),List.flatMap_cons,List.append_assoc,stepE_lay _ _ _ (h _ (List.getElem_mem _)),List.take_succ_eq_append_getElem (by omega)]
theorem runP_lay (ps:List (List UInt8)) (m:List UInt8) (h:∀ x∈ps,x.length=32):∀ k,k≤ps.length→runP (ps.flatten++m,0) k=(ps.take k,(ps.drop k).flatten++m,0):=by
 intro k
 induction k with
 | zero=>intro _;simp [runP]
 | succ k ih =>
  intro hk
  have h1:=ih (by omega)
  have h32:=h _ (List.getElem_mem (l:=ps) (n:=k) (by omega))
  have h3:=rawS_lay (ps[k]) ((ps.drop (k+1)).flatten++m) 32 h32
  rw [runP,h1,List.drop_eq_getElem_cons (by omega),List.flatten_cons,List.append_assoc]
  unfold stepP
  simp only
  rw [show (32:Int)=((32:Nat):Int) from rfl,h3,pad32_id _ h32,List.take_succ_eq_append_getElem (by omega)]
def ChgL.Ok (c:ChgL):Prop:=c.tree.length=32∧(∀ x∈c.pars,x.length=32)∧c.time<18446744073709551616∧c.author.length≤65536∧c.text.length≤65536
def MrkL.Ok (m:MrkL):Prop:=m.target.length=32∧m.name.length≤65536∧m.text.length≤65536
theorem readC_lay (c:ChgL) (hn:c.pars.length≤4) (h:c.Ok):readC (chgB c)=c:=by
 obtain ⟨tree,pars,time,author,text⟩:=c
 obtain ⟨ht,hp,hm,ha,hx⟩:=h
 simp only at ht hp hm ha hx hn
 have e1:chgB ⟨tree,pars,time,author,text⟩=tree++(lb pars.length 1++(pars.flatten++(lb time 8++(layS author++(layS text++[]))))):=by simp [chgB]
 have h1:=rawS_lay tree (lb pars.length 1++(pars.flatten++(lb time 8++(layS author++(layS text++[]))))) 32 ht
 have h2:=numS1_lay pars.length (by omega) (pars.flatten++(lb time 8++(layS author++(layS text++[]))))
 have h3:=runP_lay pars (lb time 8++(layS author++(layS text++[]))) hp pars.length (Nat.le_refl _)
 have h4:=numS8_lay time hm (layS author++(layS text++[]))
 have h5:=sizedS_lay author (layS text++[]) ha
 have h6:=sizedS_lay text [] hx
 rw [List.take_of_length_le (Nat.le_refl _),List.drop_of_length_le (Nat.le_refl _),List.flatten_nil,List.nil_append] at h3
 unfold readC
 simp only [e1]
 rw [show (32:Int)=((32:Nat):Int) from rfl]
 simp only [h1,h2,Nat.min_eq_left hn,h3,h4,h5,h6,pad32_id _ ht]
end Go.Proofs.YtlifmipnoeioaaaGreatDoor

/- Lemmas. -/
namespace Go.Proofs.YtlifmipnoeioaaaGreatDoor
open Go.RowKit
def enC (e:EntL):List Value := .string (str e.name) :: .bool e.dir::e.id.map bv
def chC (c:ChgL) (po:Option Addr) (pc:Nat):List Value:=c.tree.map bv++[.slice po c.pars.length pc,.int .u64 (c.time:Int),.string (str c.author),.string (str c.text)]
def mkC (m:MrkL):List Value:=m.target.map bv++[.string (str m.name),.string (str m.text)]
theorem enC_len (e:EntL) (h:e.id.length=32):(enC e).length=34:=by simp [enC,h]
theorem chC_len (c:ChgL) (po:Option Addr) (pc:Nat) (h:c.tree.length=32):(chC c po pc).length=36:=by simp [chC,h]
theorem mkC_len (m:MrkL) (h:m.target.length=32):(mkC m).length=34:=by simp [mkC,h]
theorem enC_one (e:EntL):∀ u∈enC e,u.oneCell'=true:=by
 intro u hu
 simp only [enC,List.mem_cons] at hu
 rcases hu with rfl | rfl | hu
 ·rfl
 ·rfl
 ·exact bv_one _ u hu
theorem chC_one (c:ChgL) (po:Option Addr) (pc:Nat):∀ u∈chC c po pc,u.oneCell'=true:=by
 intro u hu
 simp only [chC,List.mem_append,List.mem_cons,List.not_mem_nil,or_false] at hu
 rcases hu with hu | rfl | rfl | rfl | rfl
 ·exact bv_one _ u hu
 all_goals rfl
theorem mkC_one (m:MrkL):∀ u∈mkC m,u.oneCell'=true:=by
 intro u hu
 simp only [mkC,List.mem_append,List.mem_cons,List.not_mem_nil,or_false] at hu
 rcases hu with hu | rfl | rfl
 ·exact bv_one _ u hu
 all_goals rfl
theorem chC_at (c:ChgL) (po:Option Addr) (pc:Nat) (h:c.tree.length=32):(chC c po pc)[32]? = some (.slice po c.pars.length pc)∧(chC c po pc)[33]? = some (.int .u64 (c.time:Int))∧(chC c po pc)[34]? = some (.string (str c.author))∧(chC c po pc)[35]? = some (.string (str c.text)):=by
 have hl:(c.tree.map bv).length=32:=by simp [h]
 unfold chC
 refine ⟨?_,?_,?_,?_⟩ <;> rw [List.getElem?_append_right (by omega),hl] <;> rfl
theorem mkC_at (m:MrkL) (h:m.target.length=32):(mkC m)[32]? = some (.string (str m.name))∧(mkC m)[33]? = some (.string (str m.text)):=by
 have hl:(m.target.map bv).length=32:=by simp [h]
 unfold mkC
 refine ⟨?_,?_⟩ <;> rw [List.getElem?_append_right (by omega),hl] <;> rfl
theorem info_ent:(Tryz.prog.info? 120).map (·.size)=some 34:=by kernel_rfl
theorem info_obj:(Tryz.prog.info? 42).map (·.size)=some 2:=by kernel_rfl
theorem info_chg:(Tryz.prog.info? 72).map (·.size)=some 36:=by kernel_rfl
theorem info_mrk:(Tryz.prog.info? 123).map (·.size)=some 34:=by kernel_rfl
theorem info_id:(Tryz.prog.info? 33).map (·.size)=some 32:=by kernel_rfl
structure Ens (w:World) (ao:Option Addr) (c:Nat) (es:List EntL):Prop where
 zip:ao=none→es.length=0∧c=0
 fits:es.length≤c
 most:c≤maxLen
 shape:∀ ad,ao=some ad→0<es.length→ad.spot=none
 row:∀ ad,ao=some ad→∀ i (h:i<es.length),w.rangeAt ad.block (ad.off+i*34) (enC es[i])
 ids:∀ e∈es,e.id.length=32
structure Ids (w:World) (ao:Option Addr) (c:Nat) (ps:List (List UInt8)):Prop where
 zip:ao=none→ps.length=0∧c=0
 fits:ps.length≤c
 most:c≤maxLen
 shape:∀ ad,ao=some ad→0<ps.length→ad.spot=none
 row:∀ ad,ao=some ad→∀ i (h:i<ps.length),w.rangeAt ad.block (ad.off+i*32) (ps[i].map bv)
 ids:∀ x∈ps,x.length=32
theorem Ens.nil (w:World):Ens w none 0 []:=⟨fun _=>⟨rfl,rfl⟩,Nat.le_refl _,Nat.zero_le _,(fun _ e=>by cases e),(fun _ e=>by cases e),(fun _ h=>by simp at h)⟩
theorem Ids.nil (w:World):Ids w none 0 []:=⟨fun _=>⟨rfl,rfl⟩,Nat.le_refl _,Nat.zero_le _,(fun _ e=>by cases e),(fun _ e=>by cases e),(fun _ h=>by simp at h)⟩
theorem Ens.kept {w a:World} {ao:Option Addr} {c:Nat} {es:List EntL} {r:Option Nat} (h:Ens w ao c es) (g:w.grownBy a r) (hr:∀ x,r=some x→Off ao x):Ens a ao c es :=
 ⟨h.zip,h.fits,h.most,h.shape,fun ad e i hi=>range_kept (h.row ad e i hi) g (fun e2=>hr _ e2.symm ad e rfl),h.ids⟩
theorem Ids.kept {w a:World} {ao:Option Addr} {c:Nat} {ps:List (List UInt8)} {r:Option Nat} (h:Ids w ao c ps) (g:w.grownBy a r) (hr:∀ x,r=some x→Off ao x):Ids a ao c ps :=
 ⟨h.zip,h.fits,h.most,h.shape,fun ad e i hi=>range_kept (h.row ad e i hi) g (fun e2=>hr _ e2.symm ad e rfl),h.ids⟩
theorem Ens.none {w a:World} {ao:Option Addr} {c:Nat} {es:List EntL} (h:Ens w ao c es) (g:w.grownBy a Option.none):Ens a ao c es:=h.kept g (fun _ e=>by cases e)
theorem Ids.none {w a:World} {ao:Option Addr} {c:Nat} {ps:List (List UInt8)} (h:Ids w ao c ps) (g:w.grownBy a Option.none):Ids a ao c ps:=h.kept g (fun _ e=>by cases e)
theorem Ens.at {w:World} {ao:Option Addr} {c:Nat} {es:List EntL} (h:Ens w ao c es) (i:Nat) (hi:i<es.length):∃ b o,ao=some ⟨b,o,Option.none⟩∧∀ k (hk:k<es.length),w.rangeAt b (o+k*34) (enC es[k]):=by
 obtain ⟨ad,had⟩:∃ ad,ao=some ad:=by
  cases ao with
  | none=>have:=(h.zip rfl).1;omega
  | some ad=>exact ⟨ad,rfl⟩
 have hs:=h.shape ad had (by omega)
 have h0:=h.row ad had
 obtain ⟨b,o,s⟩:=ad
 simp only at hs h0
 subst hs
 exact ⟨b,o,had,h0⟩
theorem Ids.at {w:World} {ao:Option Addr} {c:Nat} {ps:List (List UInt8)} (h:Ids w ao c ps) (i:Nat) (hi:i<ps.length):∃ b o,ao=some ⟨b,o,Option.none⟩∧∀ k (hk:k<ps.length),w.rangeAt b (o+k*32) (ps[k].map bv):=by
 obtain ⟨ad,had⟩:∃ ad,ao=some ad:=by
  cases ao with
  | none=>have:=(h.zip rfl).1;omega
  | some ad=>exact ⟨ad,rfl⟩
 have hs:=h.shape ad had (by omega)
 have h0:=h.row ad had
 obtain ⟨b,o,s⟩:=ad
 simp only at hs h0
 subst hs
 exact ⟨b,o,had,h0⟩
theorem Ids.take {w:World} {ao:Option Addr} {c:Nat} {ps:List (List UInt8)} (h:Ids w ao c ps) (n:Nat) (hn:n≤ps.length):Ids w ao c (ps.take n):=by
 refine ⟨(fun e => ?_),?_,h.most,(fun ad e hp=>h.shape ad e (by simp at hp;omega)),(fun ad e i hi => ?_),(fun x hx=>h.ids x (List.mem_of_mem_take hx))⟩
 ·have:=h.zip e
  exact ⟨by simp;omega,this.2⟩
 ·have:=h.fits;simp;omega
 ·have hi' : i<ps.length:=by simp at hi;omega
  have:=h.row ad e i hi'
  simpa using this
theorem flat_at {α:Type} (f:α→List Value) (k:Nat) (L:List α) (h:∀ x∈L,(f x).length=k) (i j:Nat) (hi:i<L.length) (hj:j<k):(L.flatMap f)[i*k+j]? = (f L[i])[j]? := by
 induction L generalizing i with
 | nil=>simp at hi
 | cons x L ih =>
  have hx:=h x (by simp)
  rw [List.flatMap_cons]
  cases i with
  | zero=>rw [Nat.zero_mul,Nat.zero_add,List.getElem?_append_left (by omega)];rfl
  | succ i =>
   rw [List.getElem?_append_right (by rw [hx,Nat.succ_mul];omega),hx,show (i+1)*k+j - k=i*k+j by rw [Nat.succ_mul];omega]
   exact ih (fun y hy=>h y (List.mem_cons_of_mem _ hy)) i (by simpa using hi)
theorem flat_len2 {α:Type} (f:α→List Value) (k:Nat) (L:List α) (h:∀ x∈L,(f x).length=k):(L.flatMap f).length=L.length*k:=by
 induction L with
 | nil=>simp
 | cons x L ih =>
  have hx:=h x (by simp)
  rw [List.flatMap_cons,List.length_append,hx,ih (fun y hy=>h y (List.mem_cons_of_mem _ hy)),List.length_cons,Nat.succ_mul]
  omega
theorem own_rows {α:Type} (f:α→List Value) (k:Nat) {w:World} {base:Nat} {t:TypeId} {v:Value} {L:List α} (h:w.ownsRow base t k v L.length (L.flatMap f)) (hf:∀ x∈L,(f x).length=k) :
  ∃ ao c,v = .slice ao L.length c∧(ao=none→L.length=0∧c=0)∧L.length≤c∧c≤maxLen∧(∀ ad,ao=some ad→ad.spot=none∧base≤ad.block)∧∀ ad,ao=some ad→∀ i (h:i<L.length),w.rangeAt ad.block (ad.off+i*k) (f L[i]):=by
 rcases h.2 with ⟨rfl,h2⟩ | ⟨g,cap,cur,rfl,hg,hh,h3,h4,h5,h6⟩
 ·have:=List.eq_nil_of_length_eq_zero h2
  subst this
  exact ⟨none,0,rfl,fun _=>⟨rfl,rfl⟩,Nat.le_refl _,Nat.zero_le _,(fun _ e=>by cases e),fun _ e=>by cases e⟩
 ·refine ⟨_,_,rfl,(fun e=>by cases e),h3,h4,(fun ad e=>by cases e;exact ⟨rfl,hg⟩),fun ad e i hi j v hv => ?_⟩
  cases e
  have hj:j<k:=by rw [← hf L[i] (List.getElem_mem _)];exact (List.getElem?_eq_some_iff.1 hv).1
  have h7:(cur.toList.take (L.length*k))[i*k+j]? = (L.flatMap f)[i*k+j]? := by rw [h6]
  have h8:(i+1)*k≤L.length*k:=Nat.mul_le_mul_right k hi
  rw [Nat.succ_mul] at h8
  rw [List.getElem?_take_of_lt (by omega),flat_at f k L hf i j hi hj,hv] at h7
  simp only [World.cell?,hh,Nat.zero_add]
  simpa using h7
theorem Ens.own {w:World} {base:Nat} {v:Value} {es:List EntL} (h:w.ownsRow base 120 34 v es.length (es.flatMap enC)) (hi:∀ e∈es,e.id.length=32):∃ ao c,v = .slice ao es.length c∧Ens w ao c es:=by
 obtain ⟨ao,c,h1,h2,h3,h4,h5,h6⟩:=own_rows enC 34 h (fun x hx=>enC_len x (hi x hx))
 exact ⟨ao,c,h1,h2,h3,h4,fun ad e _=>(h5 ad e).1,h6,hi⟩
theorem Ids.own {w:World} {base:Nat} {v:Value} {ps:List (List UInt8)} (h:w.ownsRow base 33 32 v ps.length (ps.flatMap (·.map bv))) (hi:∀ x∈ps,x.length=32):∃ ao c,v = .slice ao ps.length c∧Ids w ao c ps:=by
 obtain ⟨ao,c,h1,h2,h3,h4,h5,h6⟩:=own_rows (fun x:List UInt8=>x.map bv) 32 h (fun x hx=>by simp [hi x hx])
 exact ⟨ao,c,h1,h2,h3,h4,fun ad e _=>(h5 ad e).1,h6,hi⟩
end Go.Proofs.YtlifmipnoeioaaaGreatDoor

/- Lemmas. -/
namespace Go.Proofs.YtlifmipnoeioaaaGreatDoor
open Go.RowKit
theorem Blk.typ {w:World} {b:Nat} {t:TypeId} {cs:List Value} (h:Blk w b t cs) (ht:t≠5):¬ Typ w b:=by
 rintro ⟨cur,m,h2⟩
 unfold Blk at h
 rw [h] at h2
 injection h2 with h3
 injection h3 with _ h4
 exact ht h4
theorem wpList_append_btm {w:World} {ops:Array Oper} {rest:List Oper} {o:Oper} {a:Act} {Q:Exit→Act→World→Prop} (hgd:o.guard=none) (s x:Operand)
  (ho:o.op = .call { callee := .builtin .append,args := #[s,x],argTypes := #[37,37] })
  (base:Nat) (v:Value) (n:Nat) (xs:List Value) (hs:a.eval s=v) (hown:w.ownsRow base 5 1 v n xs)
  (ao:Option Addr) (c:Nat) (l:List UInt8) (hb:Bts w ao c l) (m:Nat) (hm:m=l.length) (hx:a.eval x = .slice ao m c) (hn:n+m≤140737488355328) (hbase:base≤w.heap.size)
  (h:∀ v' w',w'.ownsRow base 5 1 v' (n+m) (xs++l.map bv)→w.grownBy w' v.ownBlock→wpList Tryz.prog ops Q rest (a.put o.dst v') w'):wpList Tryz.prog ops Q (o::rest) a w:=by
 subst hm
 exact wpList_append_bts hgd s x ho base v n xs hs hown ao c l hb hx hn hbase h
theorem own_new (V:World) (base:Nat) (h:base≤V.heap.size):∃ Wb,Wb=V.alloc (.cells #[] 5)∧Wb.ownsRow base 5 1 (.slice (some ⟨V.heap.size,0,none⟩) 0 0) 0 []∧V.grownBy Wb none :=
 ⟨_,rfl,World.ownsRow_made V #[] 0 h (by unfold maxLen;omega) rfl,gb_alloc (gb_refl _ _) _⟩
theorem own_apart {V:World} {base n:Nat} {v:Value} {xs cs:List Value} {p:Nat} {t:TypeId} (h:V.ownsRow base 5 1 v n xs) (hB:Blk V p t cs) (ht:t≠5):some p≠v.ownBlock:=by
 rcases h.2 with ⟨rfl,_⟩ | ⟨g,cap,cur,rfl,hg,hh,_⟩
 ·intro e;cases e
 ·intro e
  have e2:p=g:=by simpa [Value.ownBlock] using e
  subst e2
  exact hB.typ ht ⟨cur,_,hh⟩
theorem own_keep {V V' : World} {base n:Nat} {v:Value} {xs:List Value} (h:V.ownsRow base 5 1 v n xs) (g:V.grownBy V' none):V'.ownsRow base 5 1 v n xs :=
 h.kept g (by
  by_cases e:v.ownBlock=none
  ·exact Or.inl e
  ·exact Or.inr e)
theorem own_grow {u V V' : World} {n:Nat} {v:Value} {xs:List Value} (g:u.grownBy V none) (h:V.ownsRow u.heap.size 5 1 v n xs) (q:V.grownBy V' v.ownBlock):u.grownBy V' none :=
 gb_trans g q (fun x e=>Or.inl (h.lt x e).1)
end Go.Proofs.YtlifmipnoeioaaaGreatDoor

/- Lemmas. -/
namespace Go.Proofs.YtlifmipnoeioaaaGreatDoor
open Go.RowKit
theorem range_bts {w:World} {b o:Nat} {l:List UInt8} (h:w.rangeAt b o (l.map bv)) (hm:l.length≤maxLen):Bts w (some ⟨b,o,none⟩) l.length l:=by
 refine ⟨(fun e=>by cases e),Nat.le_refl _,hm,(fun ad e _=>by cases e;rfl),(fun ad e i hi => ?_)⟩
 cases e
 exact h i _ (by simp [bv,hi])
theorem slice_wid (b o:Nat) (W:World):(Instr.sliceAt 33 (.pointer (some ⟨b,o,none⟩)) none none none).run Tryz.prog W = .ok (.slice (some ⟨b,o,none⟩) 32 32) W:=by
 have ea:Tryz.prog.arrayLen 33=32:=by simp [Program.arrayLen,Tryz.underlying33]
 have ee:Tryz.prog.elem 33=5:=by simp [Program.elem,Tryz.underlying33]
 rw [run_sliceAt_array_all W 33 ⟨b,o,none⟩ (by rw [ea,ee];exact Tryz.underlying33),ea,ee,size_byte]
 simp only [Result.andThen_ok,slicedAt,Nat.zero_mul,Nat.sub_zero]
 rw [if_neg (by omega),Addr.add_mid]
 rfl
theorem own_low {w:World} {b1 b2 k n:Nat} {t:TypeId} {v:Value} {xs:List Value} (h:w.ownsRow b1 t k v n xs) (hb:b2≤b1):w.ownsRow b2 t k v n xs:=by
 refine ⟨h.1,?_⟩
 rcases h.2 with h1 | ⟨g,cap,cur,h1,h2,h3⟩
 ·exact Or.inl h1
 ·exact Or.inr ⟨g,cap,cur,h1,Nat.le_trans hb h2,h3⟩
theorem own_read {w:World} {base n:Nat} {v:Value} {l:List UInt8} (h:w.ownsRow base 5 1 v n (l.map bv)):n=l.length∧∃ ao c,v = .slice ao n c∧Bts w ao c l∧∀ ad,ao=some ad→base≤ad.block∧Typ w ad.block:=by
 have hn:n=l.length:=by have:=h.1;simpa using this.symm
 refine ⟨hn,?_⟩
 rcases h.2 with ⟨rfl,h2⟩ | ⟨g,cap,cur,rfl,hg,hh,_⟩
 ·have:l=[]:=List.eq_nil_of_length_eq_zero (by omega)
  subst this
  exact ⟨none,0,by rw [hn];rfl,Bts.nil _,fun _ e=>by cases e⟩
 ·obtain ⟨_,h3,h4⟩:=Bts.own h
  exact ⟨_,_,rfl,h4,fun ad e=>by cases e;exact ⟨h3,⟨cur,_,hh⟩⟩⟩
theorem own_typ {w:World} {base n k x:Nat} {t:TypeId} {v:Value} {xs:List Value} (h:w.ownsRow base t k v n xs) (e:v.ownBlock=some x) (ht:t≠5):¬ Typ w x:=by
 rcases h.2 with ⟨rfl,_⟩ | ⟨g,cap,cur,rfl,_,hh,_⟩
 ·cases e
 ·have:g=x:=by simpa [Value.ownBlock] using e
  subst this
  rintro ⟨cur2,m2,h2⟩
  rw [hh] at h2
  injection h2 with h3
  injection h3 with _ h4
  exact ht h4
theorem row_new (w:World) (t:TypeId) (Z:Array Value) (cs:List Value):∃ W,W=(w.alloc (.cells Z t)).setRow w.heap.size cs.toArray∧Blk W w.heap.size t cs∧w.grownBy W none :=
 ⟨_,rfl,by
  have h:Blk (w.alloc (.cells Z t)) w.heap.size t Z.toList:=by simpa using Blk.new w t Z.toList
  exact h.row cs,gb_row (gb_alloc (gb_refl _ _) _) _ (Or.inl (Nat.le_refl _))⟩
theorem box_new (w:World) (t:TypeId) (cs:List Value):∃ W,W=w.alloc (.cells cs.toArray t)∧Blk W w.heap.size t cs∧w.grownBy W none :=
 ⟨_,rfl,Blk.new w t cs,gb_alloc (gb_refl _ _) _⟩
theorem en_id {w:World} {b o:Nat} {e:EntL} (h:w.rangeAt b o (enC e)):w.rangeAt b (o+2) (e.id.map bv):=by
 intro j v hv
 rw [show o+2+j=o+(j+2) by omega]
 exact h (j+2) v (by simpa [enC] using hv)
theorem ch_tree {w:World} {b o:Nat} {c:ChgL} {po:Option Addr} {pc:Nat} (h:w.rangeAt b o (chC c po pc)):w.rangeAt b o (c.tree.map bv):=by
 intro j v hv
 refine h j v ?_
 unfold chC
 rw [List.getElem?_append_left (List.getElem?_eq_some_iff.1 hv).1]
 exact hv
theorem mk_target {w:World} {b o:Nat} {m:MrkL} (h:w.rangeAt b o (mkC m)):w.rangeAt b o (m.target.map bv):=by
 intro j v hv
 refine h j v ?_
 unfold mkC
 rw [List.getElem?_append_left (List.getElem?_eq_some_iff.1 hv).1]
 exact hv
theorem blk_all {w:World} {b:Nat} {t:TypeId} {vs:List Value} (h:Blk w b t vs):w.rangeAt b 0 vs:=by
 have:Blk w b t ([]++(vs++[])):=by simpa using h
 exact this.range
theorem zero_ent:∃ Z:Array Value,Z.size=34∧∀ w,(zeroValue 120).run Tryz.prog w = .ok (.agg Z) w:=⟨_,rfl,fun w=>(by kernel_rfl:(zeroValue 120).run Tryz.prog w = .ok (.agg (enC ⟨[],false,List.replicate 32 0⟩).toArray) w)⟩
theorem zero_chg:∃ Z:Array Value,Z.size=36∧∀ w,(zeroValue 72).run Tryz.prog w = .ok (.agg Z) w:=⟨_,rfl,fun w=>(by kernel_rfl:(zeroValue 72).run Tryz.prog w = .ok (.agg (chC ⟨List.replicate 32 0,[],0,[],[]⟩ none 0).toArray) w)⟩
theorem zero_id:∃ Z:Array Value,Z.size=32∧∀ w,(zeroValue 33).run Tryz.prog w = .ok (.agg Z) w:=⟨_,rfl,fun w=>(by kernel_rfl:(zeroValue 33).run Tryz.prog w = .ok (.agg ((List.replicate 32 (0:UInt8)).map bv).toArray) w)⟩
end Go.Proofs.YtlifmipnoeioaaaGreatDoor

/- Lemmas. -/
namespace Go.Proofs.YtlifmipnoeioaaaGreatDoor
open Go.RowKit
theorem ofData_any (w:World) (k:Int) (ao:Option Addr) (c:Nat) (d:List UInt8) :
  Calls Tryz.prog 72 #[.int .i64 k,.slice ao d.length c] w fun e w'=>e = .returned (.tuple #[.agg #[.int .i64 (if (fitB d).1=0 then k else 0),(if (fitB d).1=0 then .slice ao d.length c else .slice none 0 0)],.int .i64 (fitB d).1])∧w.grownBy w' none:=by
 by_cases h:16384<d.length
 ·have e1:fitB d=(3,[]):=by simp [fitB,h]
  rw [e1]
  go_enter Tryz.func72,Tryz.ntmps72
  go_wp2
  exact bodyPost_ret (v := .tuple #[.agg #[.int .i64 0,.slice none 0 0],.int .i64 3]) (by simp [results,Tryz.results72,go_sem]) rfl ⟨rfl,gb_alloc (gb_refl _ _) _⟩
 ·have e1:fitB d=(0,d):=by simp [fitB,h]
  rw [e1]
  go_enter Tryz.func72,Tryz.ntmps72
  go_wp2
  exact bodyPost_ret (v := .tuple #[.agg #[.int .i64 k,.slice ao d.length c],.int .i64 0]) (by simp [results,Tryz.results72,go_sem]) rfl ⟨rfl,gb_alloc (gb_refl _ _) _⟩
theorem bequal_any (w:World) (ao bo:Option Addr) (c d:Nat) (l x:List UInt8) (hb:Bts w ao c l) (hx:Bts w bo d x) :
  Calls Tryz.prog 116 #[.slice ao l.length c,.slice bo x.length d] w fun e w'=>e = .returned (.bool (decide (l=x)))∧w'=w:=by
 have c1:=conv_str hb
 have c2:=conv_str hx
 obtain ⟨A,hA⟩:∃ A,A=str l:=⟨_,rfl⟩
 obtain ⟨B,hB⟩:∃ A,A=str x:=⟨_,rfl⟩
 obtain ⟨n,hn⟩:∃ n,n=l.length:=⟨_,rfl⟩
 obtain ⟨m,hm⟩:∃ n,n=x.length:=⟨_,rfl⟩
 rw [← hA,← hn] at c1
 rw [← hB,← hm] at c2
 rw [← hn,← hm]
 have hE:A.toList=l:=by rw [hA,str_list]
 have hF:B.toList=x:=by rw [hB,str_list]
 clear hA hB hn hm hb hx
 by_cases h:l=x
 ·have hT:decide (l=x)=true:=decide_eq_true h
  rw [hT]
  subst h
  go_enter Tryz.func116,Tryz.ntmps116
  go_wp2
  go_ret
  exact ⟨rfl,rfl⟩
 ·have hT:decide (l=x)=false:=decide_eq_false h
  have hT2:(l == x)=false:=by simpa using h
  rw [hT]
  go_enter Tryz.func116,Tryz.ntmps116
  go_wp2
  go_ret
  exact ⟨rfl,rfl⟩
theorem same_any (w:World) (k m:Int) (ao bo:Option Addr) (c d:Nat) (l x:List UInt8) (hb:Bts w ao c l) (hx:Bts w bo d x) :
  Calls Tryz.prog 88 #[.agg #[.int .i64 k,.slice ao l.length c],.agg #[.int .i64 m,.slice bo x.length d]] w fun e w'=>e = .returned (.bool (decide (k=m∧l=x)))∧w.grownBy w' none:=by
 obtain ⟨n1,hn1⟩:∃ n,n=l.length:=⟨_,rfl⟩
 obtain ⟨n2,hn2⟩:∃ n,n=x.length:=⟨_,rfl⟩
 have g0:w.grownBy ((w.alloc (.cells #[.int .i64 k,.slice ao n1 c] 42)).alloc (.cells #[.int .i64 m,.slice bo n2 d] 42)) none:=gb_alloc (gb_alloc (gb_refl _ _) _) _
 have ce:=bequal_any _ ao bo c d l x (hb.kept g0 (fun _ e=>by cases e)) (hx.kept g0 (fun _ e=>by cases e))
 rw [← hn1,← hn2] at ce ⊢
 clear hn1 hn2 hb hx
 by_cases h:k=m
 ·subst h
  have hd:decide (k=k∧l=x)=decide (l=x):=by simp
  rw [hd]
  obtain ⟨B,hB⟩:∃ B,B=decide (l=x):=⟨_,rfl⟩
  rw [← hB] at ce ⊢
  clear hB hd
  go_enter Tryz.func88,Tryz.ntmps88
  go_wp2_with (go_at_call 116;refine ce.mono ?_;rintro e w1 ⟨rfl,hw1⟩;subst w1;clear ce)
  go_ret
  exact ⟨rfl,g0⟩
 ·have hd:decide (k=m∧l=x)=false:=by simp [h]
  have h2:(k == m)=false:=by simpa using h
  rw [hd]
  clear ce hd
  go_enter Tryz.func88,Tryz.ntmps88
  go_wp2
  go_ret
  exact ⟨rfl,g0⟩
end Go.Proofs.YtlifmipnoeioaaaGreatDoor
