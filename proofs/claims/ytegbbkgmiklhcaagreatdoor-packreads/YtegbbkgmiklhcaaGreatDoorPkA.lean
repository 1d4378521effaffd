/- Lemmas. -/
import Derived.Test.YtegbbkgmiklhcaaGreatDoorSMath
import Derived.Test.YtegbbkgmiklhcaaGreatDoorLOwn
namespace Go.Proofs.YtegbbkgmiklhcaaGreatDoor
open Go.RowKit
set_option maxRecDepth 100000
def Ris (l:List (List UInt8)):Prop:=l.Pairwise fun a b=>zay a b=true
theorem zk2 {a b:List UInt8} (h:zay a b=true):a≠b:=by
 rintro rfl
 rw[zc9] at h
 cases h
theorem Ris.nodup {l:List (List UInt8)} (h:Ris l):l.Nodup:=List.Pairwise.imp zk2 h
theorem Ris.filter {l:List (List UInt8)} (h:Ris l) (p:List UInt8→Bool):Ris (l.filter p):=List.Pairwise.filter p h
theorem Ris.cons {x:List UInt8} {l:List (List UInt8)} (h:Ris (x::l)):(∀ y∈l,zay x y=true)∧Ris l:=List.pairwise_cons.1 h
theorem Ris.ext:∀ {a b:List (List UInt8)},Ris a→Ris b→(∀ x,x∈a↔x∈b)→a=b
 | [],[],_,_,_=>rfl
 | [],y::b,_,_,h=>absurd ((h y).2 (by simp)) (by simp)
 | x::a,[],_,_,h=>absurd ((h x).1 (by simp)) (by simp)
 | x::a,y::b,ha,hb,h=>by
  have hxy:x=y:=by
   rcases List.mem_cons.1 ((h x).1 (by simp)) with h1 | h1
   ·exact h1
   ·rcases List.mem_cons.1 ((h y).2 (by simp)) with h2 | h2
    ·exact h2.symm
    ·have h3:=zdu _ _ (hb.cons.1 x h1)
     rw[ha.cons.1 y h2] at h3
     cases h3
  subst hxy
  rw[Ris.ext ha.cons.2 hb.cons.2 fun z => ?_]
  constructor
  ·intro hz
   rcases List.mem_cons.1 ((h z).1 (by simp[hz])) with h1 | h1
   ·exact absurd h1.symm (zk2 (ha.cons.1 z hz))
   ·exact h1
  ·intro hz
   rcases List.mem_cons.1 ((h z).2 (by simp[hz])) with h1 | h1
   ·exact absurd h1.symm (zk2 (hb.cons.1 z hz))
   ·exact h1
theorem zel {α:Type} [DecidableEq α]:∀ {K U:List α},K.Nodup→(∀ x∈K,x∈U)→K.length≤U.length
 | [],_,_,_=>Nat.zero_le _
 | x::K,U,hn,h=>by
  have hc:=List.nodup_cons.1 hn
  have hx:=h x (by simp)
  have h1:K.length≤(U.erase x).length:=zel hc.2 fun y hy=>(List.mem_erase_of_ne (fun e=>hc.1 (by rw[← e];exact hy))).2 (h y (by simp[hy]))
  have h2:=List.length_erase_of_mem hx
  have h3:0<U.length:=List.length_pos_of_mem hx
  rw[List.length_cons]
  omega
inductive Rch (nx:List UInt8→List (List UInt8)) (R:List (List UInt8)):List UInt8→Prop
 | root {x:List UInt8} : x∈R→Rch nx R x
 | next {x y:List UInt8} : Rch nx R x→y∈nx x→Rch nx R y
theorem Rch.mono {nx:List UInt8→List (List UInt8)} {R Q:List (List UInt8)} (h:∀ x∈R,Rch nx Q x) {x:List UInt8} (hx:Rch nx R x):Rch nx Q x:=by
 induction hx with
 | root hm=>exact h _ hm
 | next _ hm ih=>exact .next ih hm
theorem Rch.more {nx:List UInt8→List (List UInt8)} {R Q:List (List UInt8)} (h:∀ x∈R,x∈Q) {x:List UInt8} (hx:Rch nx R x):Rch nx Q x:=hx.mono fun x hm => .root (h x hm)
theorem Rch.none {nx:List UInt8→List (List UInt8)} {x:List UInt8} (hx:Rch nx [] x):False:=by
 induction hx with
 | root h=>simp at h
 | next _ _ ih=>exact ih
theorem Rch.to {nx my:List UInt8→List (List UInt8)} {R:List (List UInt8)} (h:∀ x,Rch nx R x→nx x=my x) {x:List UInt8} (hx:Rch nx R x):Rch my R x:=by
 induction hx with
 | root hm=>exact .root hm
 | next h1 hm ih=>exact .next ih (by rw[← h _ h1];exact hm)
theorem Rch.in {nx:List UInt8→List (List UInt8)} {R:List (List UInt8)} {p:List UInt8→Prop} (h0:∀ x∈R,p x) (h1:∀ x,p x→∀ y∈nx x,p y) {x:List UInt8} (hx:Rch nx R x):p x:=by
 induction hx with
 | root hm=>exact h0 _ hm
 | next _ hm ih=>exact h1 _ ih _ hm
structure ObE where
 id:List UInt8
 k:Int
 d:List UInt8
deriving Inhabited,DecidableEq
def lkS (S:List ObE) (x:List UInt8):Option ObE:=S.find? fun e=>e.id == x
def hasS (S:List ObE) (x:List UInt8):Bool:=(lkS S x).isSome
def idsS (S:List ObE):List (List UInt8):=S.map (·.id)
def nxO (o:Option ObE):List (List UInt8):=match o with | some e=>zc1 e.k e.d | .none=>[]
def prO (o:Option ObE):List (List UInt8):=match o with | some e=>(telC e.k e.d).2.pars | .none=>[]
def nxS (S:List ObE) (x:List UInt8):List (List UInt8):=nxO (lkS S x)
def prS (S:List ObE) (x:List UInt8):List (List UInt8):=prO (lkS S x)
def putS:List ObE→ObE→List ObE
 | [],e=>[e]
 | x::l,e=>if zay x.id e.id=true then x::putS l e else if x.id=e.id then e::l else e::x::l
def dropS (S:List ObE) (x:List UInt8):List ObE:=S.filter fun e=>e.id != x
structure SetS (S:List ObE):Prop where
 ris:Ris (idsS S)
 len:∀ e∈S,e.id.length=32
 is:∀ e∈S,e.id=shaL (putL e.k e.d)
 ok:∀ e∈S,zap e.k e.d=0
 few:S.length≤1000
abbrev Ob:=Int × List UInt8
def obB (o:Ob):List UInt8:=putL o.1 o.2
def obId (o:Ob):List UInt8:=shaL (obB o)
def zds (n:Nat):List UInt8:=[67,80,75,49]++lb n 2
def zd0 (s:List Ob):List UInt8:=zds s.length++s.flatMap obB
def RisO (s:List Ob):Prop:=s.Pairwise fun a b=>zay (obId a) (obId b)=true
def OkO (o:Ob):Prop:=zap o.1 o.2=0
structure PackOf (b:List UInt8) (s:List Ob):Prop where
 few:s.length≤256
 ok:∀ o∈s,OkO o
 ris:RisO s
 eq:b=zd0 s
theorem zg9 {o:Ob} (h:OkO o):∃ k:Nat,o.1=(k:Int)∧1≤k∧k≤4∧o.2.length≤16384:=by
 unfold OkO zap at h
 by_cases h1:o.1<1∨4<o.1
 ·rw[if_pos h1] at h;cases h
 ·rw[if_neg h1] at h
  by_cases h2:16384<o.2.length
  ·rw[if_pos h2] at h;cases h
  ·exact ⟨o.1.toNat,by omega,by omega,by omega,by omega⟩
theorem zht (o:Ob):(obB o).length=5+o.2.length:=by
 unfold obB putL layS
 simp[zbc]
 omega
def rdO (l:List UInt8) (e:Int):Ob × List UInt8 × Int :=
 let a:=numS l e 1
 let s:=zal a.2.1 a.2.2
 (((a.1:Int),s.1),s.2.1,s.2.2)
theorem zk3 {o:Ob} (h:OkO o) (m:List UInt8):rdO (obB o++m) 0=(o,m,0):=by
 obtain ⟨k,h1,h2,h3,h4⟩:=zg9 h
 obtain ⟨ok,od⟩:=o
 simp only at h1 h4
 subst h1
 unfold rdO obB
 simp only
 rw[zuw k (by omega) od m]
 have e1:=ze6 k (by omega) (layS od++m)
 have e2:=zco od m (by omega)
 simp only[e1,e2]
def rdOs:Nat→List UInt8→Int→List Ob × List UInt8 × Int
 | 0,l,e=>([],l,e)
 | n+1,l,e=>let a:=rdOs n l e;let b:=rdO a.2.1 a.2.2;(a.1++[b.1],b.2.1,b.2.2)
theorem zl8 (n:Nat) (l:List UInt8) (e:Int):(rdOs n l e).1.length=n:=by
 induction n with
 | zero=>rfl
 | succ n ih=>simp[rdOs,ih]
theorem zl9 (s:List Ob):∀ (n:Nat) (m:List UInt8),(∀ o∈s,OkO o)→n≤s.length→rdOs n (s.flatMap obB++m) 0=(s.take n,(s.drop n).flatMap obB++m,0):=by
 intro n m h hn
 induction n with
 | zero=>simp[rdOs]
 | succ n ih =>
  have hl:n<s.length:=by omega
  have e:=ih (by omega)
  unfold rdOs
  rw[e]
  simp only
  rw[List.drop_eq_getElem_cons hl,List.flatMap_cons,List.append_assoc,zk3 (h _ (List.getElem_mem hl)),List.take_succ_eq_append_getElem hl]
theorem zfg (n:Nat):(zds n).length=6:=by simp[zds,zbc]
theorem zjs {s:List Ob} : (zd0 s).take 4=[67,80,75,49]∧(zd0 s).drop 4=lb s.length 2++s.flatMap obB:=by
 constructor <;> simp[zd0,zds]
theorem zha {s:List Ob} (h:∀ o∈s,OkO o) (hl:s.length≤256):numS ((zd0 s).drop 4) 0 2=(s.length,s.flatMap obB,0)∧rdOs s.length (s.flatMap obB) 0=(s,[],0):=by
 constructor
 ·rw[zjs.2,zi9 _ (by omega)]
 ·have:=zl9 s s.length [] h (Nat.le_refl _)
  simpa using this
theorem PackOf.one {b:List UInt8} {s t:List Ob} (hs:PackOf b s) (ht:PackOf b t):s=t:=by
 have e:zd0 s=zd0 t:=by rw[← hs.eq,ht.eq]
 have h1:=zha hs.ok hs.few
 have h2:=zha ht.ok ht.few
 rw[e,h2.1] at h1
 have hl:t.length=s.length:=by have:=h1.1;injection this
 have hf:t.flatMap obB=s.flatMap obB:=by have:=h1.1;injection this with _ q;injection q
 have h3:=h1.2
 rw[← hl,← hf,h2.2] at h3
 injection h3 with q
 exact q.symm
theorem zsz {α:Type} {R:α→α→Prop} (asym:∀ a b,R a b→¬ R b a):∀ {s t:List α},s.Pairwise R→t.Pairwise R→(∀ x,x∈s↔x∈t)→s=t
 | [],[],_,_,_=>rfl
 | [],y::t,_,_,h=>absurd ((h y).2 (by simp)) (by simp)
 | x::s,[],_,_,h=>absurd ((h x).1 (by simp)) (by simp)
 | x::s,y::t,hs,ht,h=>by
  have h1:=List.pairwise_cons.1 hs
  have h2:=List.pairwise_cons.1 ht
  have irr:∀ a,¬ R a a:=fun a q=>asym a a q q
  have hxy:x=y:=by
   rcases List.mem_cons.1 ((h x).1 (by simp)) with e | e
   ·exact e
   ·rcases List.mem_cons.1 ((h y).2 (by simp)) with f | f
    ·exact f.symm
    ·exact absurd (h1.1 y f) (asym _ _ (h2.1 x e))
  subst hxy
  rw[zsz asym h1.2 h2.2 fun z => ?_]
  constructor
  ·intro hz
   rcases List.mem_cons.1 ((h z).1 (by simp[hz])) with e | e
   ·subst e;exact absurd (h1.1 z hz) (irr z)
   ·exact e
  ·intro hz
   rcases List.mem_cons.1 ((h z).2 (by simp[hz])) with e | e
   ·subst e;exact absurd (h2.1 z hz) (irr z)
   ·exact e
theorem RisO.ext {s t:List Ob} (hs:RisO s) (ht:RisO t) (h:∀ x,x∈s↔x∈t):s=t :=
 zsz (fun a b q r=>by rw[zdu _ _ q] at r;cases r) hs ht h
theorem RisO.ids {s:List Ob} (h:RisO s):Ris (s.map obId):=by
 unfold Ris
 rw[List.pairwise_map]
 exact h
theorem RisO.nodup {s:List Ob} (h:RisO s):(s.map obId).Nodup:=h.ids.nodup
def errP (l:List Ob):Int :=
 if 256<l.length then 3 else match l.find? fun o=>zap o.1 o.2 != 0 with
  | some o=>zap o.1 o.2
  | none=>if (l.map obId).Nodup then 0 else 14
def PutP (l:List Ob) (b:List UInt8) (e:Int):Prop:=e=errP l∧(e≠0→b=[])∧(e=0→∃ s,s.Perm l∧PackOf b s)
theorem ztu {l:List Ob} (h:errP l=0):l.length≤256∧(∀ o∈l,OkO o)∧(l.map obId).Nodup:=by
 unfold errP at h
 split at h
 ·cases h
 ·rename_i hl
  split at h
  ·rename_i o ho
   have:=List.find?_some ho
   simp only[bne_iff_ne,ne_eq] at this
   exact absurd h this
  ·rename_i ho
   split at h
   ·rename_i hn
    refine ⟨by omega,fun o hm => ?_,hn⟩
    have:=List.find?_eq_none.1 ho o hm
    simpa[OkO] using this
   ·cases h
theorem zpm {l m:List Ob} (h:l.Perm m) (h0:errP l=0):errP m=0:=by
 obtain ⟨h1,h2,h3⟩:=ztu h0
 have hl:=h.length_eq
 unfold errP
 rw[if_neg (by omega)]
 have hf:m.find? (fun o=>zap o.1 o.2 != 0)=none:=List.find?_eq_none.2 fun o ho=>by
  have:=h2 o (h.mem_iff.2 ho)
  unfold OkO at this
  simp[this]
 rw[hf]
 simp only
 rw[if_pos ((h.map obId).nodup_iff.1 h3)]
theorem PutP.one {l:List Ob} {b c:List UInt8} {e f:Int} (h:PutP l b e) (k:PutP l c f):b=c∧e=f:=by
 have he:e=f:=by rw[h.1,k.1]
 subst he
 refine ⟨?_,rfl⟩
 by_cases h0:e=0
 ·obtain ⟨s,p1,q1⟩:=h.2.2 h0
  obtain ⟨t,p2,q2⟩:=k.2.2 h0
  have:s=t:=q1.ris.ext q2.ris fun x=>by rw[p1.mem_iff,p2.mem_iff]
  rw[q1.eq,q2.eq,this]
 ·rw[h.2.1 h0,k.2.1 h0]
theorem PutP.perm {l m:List Ob} {b:List UInt8} (h:PutP l b 0) (p:l.Perm m):PutP m b 0:=by
 refine ⟨(zpm p h.1.symm).symm,fun q=>absurd rfl q,fun _ => ?_⟩
 obtain ⟨s,p1,q1⟩:=h.2.2 rfl
 exact ⟨s,p1.trans p,q1⟩
theorem PutP.of {b:List UInt8} {s:List Ob} (h:PackOf b s):PutP s b 0:=by
 refine ⟨?_,fun q=>absurd rfl q,fun _=>⟨s,List.Perm.refl _,h⟩⟩
 unfold errP
 rw[if_neg (by have:=h.few;omega)]
 have hf:s.find? (fun o=>zap o.1 o.2 != 0)=none:=List.find?_eq_none.2 fun o ho=>by
  have:=h.ok o ho
  unfold OkO at this
  simp[this]
 rw[hf]
 simp only
 rw[if_pos h.ris.nodup]
theorem PutP.pack {l:List Ob} {b:List UInt8} (h:PutP l b 0):∃ s,s.Perm l∧PackOf b s:=h.2.2 rfl
theorem zr4 (s:List Ob):(zd0 s).length=6+(s.map fun o=>5+o.2.length).sum:=by
 unfold zd0
 rw[List.length_append,zfg]
 congr 1
 induction s with
 | nil=>rfl
 | cons o s ih =>
  rw[List.flatMap_cons,List.length_append,ih,List.map_cons,List.sum_cons]
  rw[zht o]
theorem zc0:(Tryz.prog.info? 42).map (·.size)=some 2:=by kernel_rfl
theorem zk4 (r:ObP):(obP r).toArray.all (·.oneCell')=true:=all_oneCell_toArray (ztj r)
theorem zjt (wr:World) (OC:List Value):∃ W3,W3=(wr.alloc (.cells #[.int .i64 0,.slice none 0 0] 42)).setRow wr.heap.size OC.toArray∧Blk (wr.alloc (.cells #[.int .i64 0,.slice none 0 0] 42)) wr.heap.size 42 [.int .i64 0,.slice none 0 0]∧Blk W3 wr.heap.size 42 OC∧wr.grownBy W3 none:=by
 obtain ⟨W3,h1,h2,h3⟩:=zb6 wr 42 #[.int .i64 0,.slice none 0 0] OC
 exact ⟨W3,h1,Blk.new wr 42 [.int .i64 0,.slice none 0 0],h2,h3⟩
def errC (l:List Ob):Int:=match l.find? fun o=>zap o.1 o.2 != 0 with | some o=>zap o.1 o.2 | none=>0
theorem ziw {l:List Ob} (h:∀ o∈l,OkO o):errC l=0:=by
 unfold errC
 have:l.find? (fun o=>zap o.1 o.2 != 0)=none:=List.find?_eq_none.2 fun o ho=>by
  have:=h o ho
  unfold OkO at this
  simp[this]
 rw[this]
theorem zma {l:List Ob} {i:Nat} (hi:i<l.length) (h:∀ o∈l.take i,OkO o) (hb:zap l[i].1 l[i].2≠0):errC l=zap l[i].1 l[i].2:=by
 unfold errC
 have e:l.find? (fun o=>zap o.1 o.2 != 0)=some l[i]:=by
  rw[List.find?_eq_some_iff_getElem]
  refine ⟨by simpa using hb,i,hi,rfl,fun j hj => ?_⟩
  have:=h l[j] (List.mem_take_iff_getElem.2 ⟨j,by omega,rfl⟩)
  unfold OkO at this
  simp[this]
 rw[e]
theorem zpn {l:List Ob} (h:errC l=0):∀ o∈l,OkO o:=by
 unfold errC at h
 split at h
 ·rename_i o ho
  have:=List.find?_some ho
  simp only[bne_iff_ne,ne_eq] at this
  exact absurd h this
 ·rename_i ho
  intro o hm
  have:=List.find?_eq_none.1 ho o hm
  simpa[OkO] using this
set_option maxHeartbeats 2000000 in
theorem zhb (w:World) (ao:Option Addr) (c:Nat) (L:List ObP) (hO:Obsl w ao c L) (hm:L.length≤100000) :
  Calls Tryz.prog 21 #[.slice ao L.length c] w fun e w'=>e = .returned (.int .i64 (errC (L.map (·.o))))∧w.grownBy w' none:=by
 obtain ⟨n,hn⟩:∃ n,n=L.length:=⟨_,rfl⟩
 rw[← hn] at hm ⊢
 obtain ⟨HN,HO⟩:=zh2 hn hO
 clear hn hO
 go_enter Tryz.func21,Tryz.ntmps21
 go_wp2_with fail
 go_loopw [8] (fun vi wr=>∃ i:Nat,vi = .int .i64 i∧i≤n∧Hid ((∀ o∈(L.map (·.o)).take i,OkO o)∧w.grownBy wr none)) (fun vi _=>n - (intOf vi).toNat)
 case atStart=>exact ⟨0,rfl,Nat.zero_le _,⟨fun o ho=>by simp at ho,zaa _ _⟩⟩
 case round =>
  obtain ⟨i,rfl,hin,HR⟩:=hrel
  by_cases hi:i<n
  ·have hiz:(i:Int)<(n:Int):=by omega
   have hiL:i<L.length:=by rw[← uh HN];exact hi
   obtain ⟨b,o,rfl,hr0,hb0⟩:=(uh HO).at i hiL
   have hr:=zah hr0 (uh HR).2 (by simp)
   have hbt:=hb0.kept (uh HR).2 (fun _ e=>by cases e)
   obtain ⟨r,hre⟩:∃ r,r=L[i]:=⟨_,rfl⟩
   rw[← hre] at hr hbt
   obtain ⟨OC,hOC⟩:∃ C,C=obP r:=⟨_,rfl⟩
   rw[← hOC] at hr
   obtain ⟨W3,hW3,hBZ,hB3,g3⟩:=zjt wr OC
   have hr3:=zas hB3
   have hiO:(Tryz.prog.info? 42).map (·.size)=some OC.length:=by rw[hOC];exact zc0
   have hiO2:(Tryz.prog.info? 42).map (·.size)=some OC.toArray.size:=by rw[hOC];exact zc0
   have hoo:OC.toArray.all (·.oneCell')=true:=by rw[hOC];exact zk4 r
   have hzs:([Value.int .i64 0,.slice none 0 0]:List Value).toArray.size=OC.toArray.size:=by rw[hOC];rfl
   have cp:=zg7 W3 r.k r.ao r.c r.d (hbt.kept g3 (fun _ e=>by cases e))
   rw[show Value.agg #[.int .i64 r.k,.slice r.ao r.d.length r.c] = .agg OC.toArray by rw[hOC];rfl] at cp
   obtain ⟨y,hy⟩:∃ y,y=zap r.k r.d:=⟨_,rfl⟩
   rw[← hy] at cp
   obtain ⟨HY,HRE,HIO,HIO2,HOO,HZS⟩:=zh6 hy hre hiO hiO2 hoo hzs
   obtain ⟨HW3,HBZ,HR3⟩:=zh3 hW3 hBZ hr3
   have HG3:=hide (tn (uh HR).2 g3)
   have hwi:IntKind.i64.wrap ((i:Int)+1)=(i:Int)+1:=by rw[IntKind.wrap_i64];omega
   have hget:(L.map (·.o))[i]'(by simpa using hiL)=r.o:=by simp[hre]
   have HGT:=hide hget
   clear hget hy hre hOC hB3 hBZ hW3 hr3 hiO hiO2 hoo hzs g3 hr0 hb0 hbt
   have HH:=hide hr
   clear hr
   by_cases hz:y=0
   ·have hq:(y == 0)=true:=by simp[hz]
    have HZ:=hide hz
    clear hz
    go_wp2_with (first
     | (refine wpList_load_mid rfl 42 _ rfl b (o+i*2) rfl OC _ (uh HH) Tryz.underlying42 rfl (uh HIO) ?_;clear HH)
     | (refine wpList_store_row rfl 42 _ _ rfl wr.heap.size OC.toArray rfl rfl _ _ (uh HBZ) (uh HIO2) (uh HZS) (uh HOO) ?_;rw[← uh HW3])
     | (refine wpList_load_mid rfl 42 _ rfl wr.heap.size 0 rfl OC _ (uh HR3) Tryz.underlying42 rfl (uh HIO) ?_)
     | (go_at_call 40;refine cp.mono ?_;rintro e w4 ⟨rfl,g4⟩;have HG4:=hide (tn (uh HG3) g4);clear g4 cp))
    go_roundw
    case rel =>
     refine ⟨i+1,by go_num,by omega,⟨fun q hq => ?_,uh HG4⟩⟩
     rw[List.take_succ_eq_append_getElem (by simpa using hiL)] at hq
     rcases List.mem_append.1 hq with hq | hq
     ·exact (uh HR).1 q hq
     ·rw[List.mem_singleton.1 hq,uh HGT]
      show zap r.k r.d=0
      rw[← uh HY]
      exact uh HZ
    case measure=>simp[intOf];omega
   ·have hq:(y == 0)=false:=by simp[hz]
    have HZ:=hide hz
    go_wp2_with (first
     | (refine wpList_load_mid rfl 42 _ rfl b (o+i*2) rfl OC _ (uh HH) Tryz.underlying42 rfl (uh HIO) ?_;clear HH)
     | (refine wpList_store_row rfl 42 _ _ rfl wr.heap.size OC.toArray rfl rfl _ _ (uh HBZ) (uh HIO2) (uh HZS) (uh HOO) ?_;rw[← uh HW3])
     | (refine wpList_load_mid rfl 42 _ rfl wr.heap.size 0 rfl OC _ (uh HR3) Tryz.underlying42 rfl (uh HIO) ?_)
     | (go_at_call 40;refine cp.mono ?_;rintro e w4 ⟨rfl,g4⟩;have HG4:=hide (tn (uh HG3) g4);clear g4 cp))
    go_ret
    refine ⟨?_,uh HG4⟩
    rw[zma (i:=i) (by simpa using hiL) (uh HR).1 (by rw[uh HGT];show zap r.k r.d≠0;rw[← uh HY];exact uh HZ),uh HGT,uh HY]
    rfl
  ·have hiz:¬ (i:Int)<(n:Int):=by omega
   go_wp2_with fail
   go_ret
   refine ⟨?_,(uh HR).2⟩
   rw[ziw fun q hq=>(uh HR).1 q (by rw[List.take_of_length_le (by simp;have:=uh HN;omega)];exact hq)]
   rfl
def lenO (l:List Ob):Nat:=6+(l.map fun o=>5+o.2.length).sum
theorem zpo (l:List Ob) (i:Nat):lenO (l.take i)≤lenO l:=by
 have h:lenO (l.take i++l.drop i)=lenO (l.take i)+((l.drop i).map fun o=>5+o.2.length).sum:=by
  unfold lenO
  rw[List.map_append,List.sum_append]
  omega
 rw[List.take_append_drop] at h
 omega
set_option maxHeartbeats 2000000 in
theorem znr (w:World) (ao:Option Addr) (c:Nat) (L:List ObP) (hO:Obsl w ao c L) (hm:L.length≤100000) (hb:lenO (L.map (·.o))≤1152921504606846976) :
  Calls Tryz.prog 11 #[.slice ao L.length c] w fun e w'=>e = .returned (.int .i64 (lenO (L.map (·.o)):Nat))∧w.grownBy w' none:=by
 obtain ⟨n,hn⟩:∃ n,n=L.length:=⟨_,rfl⟩
 rw[← hn] at hm ⊢
 obtain ⟨HN,HO,HBD⟩:=zh3 hn hO hb
 clear hn hO hb
 go_enter Tryz.func11,Tryz.ntmps11
 go_wp2_with fail
 go_loopw [3,8] (fun vn vi wr=>∃ i m:Nat,vi = .int .i64 i∧vn = .int .i64 m∧i≤n∧m≤1152921504606846976∧Hid (m=lenO ((L.map (·.o)).take i)∧w.grownBy wr none)) (fun _ vi _=>n - (intOf vi).toNat)
 case atStart=>exact ⟨0,6,rfl,rfl,Nat.zero_le _,by omega,⟨rfl,zaa _ _⟩⟩
 case round =>
  obtain ⟨i,m,rfl,rfl,hin,hmb,HR⟩:=hrel
  by_cases hi:i<n
  ·have hiz:(i:Int)<(n:Int):=by omega
   have hiL:i<L.length:=by rw[← uh HN];exact hi
   obtain ⟨b,o,rfl,hr0,hb0⟩:=(uh HO).at i hiL
   have hr:=zah hr0 (uh HR).2 (by simp)
   obtain ⟨r,hre⟩:∃ r,r=L[i]:=⟨_,rfl⟩
   rw[← hre] at hr
   obtain ⟨OC,hOC⟩:∃ C,C=obP r:=⟨_,rfl⟩
   rw[← hOC] at hr
   obtain ⟨W3,hW3,hBZ,hB3,g3⟩:=zjt wr OC
   have c31:W3.cell? ⟨wr.heap.size,1,none⟩=some (.slice r.ao r.d.length r.c):=by rw[hOC] at hB3;exact hB3.cell 1
   have hiO:(Tryz.prog.info? 42).map (·.size)=some OC.length:=by rw[hOC];exact zc0
   have hiO2:(Tryz.prog.info? 42).map (·.size)=some OC.toArray.size:=by rw[hOC];exact zc0
   have hoo:OC.toArray.all (·.oneCell')=true:=by rw[hOC];exact zk4 r
   have hzs:([Value.int .i64 0,.slice none 0 0]:List Value).toArray.size=OC.toArray.size:=by rw[hOC];rfl
   obtain ⟨dn,hdn⟩:∃ n,n=r.d.length:=⟨_,rfl⟩
   rw[← hdn] at c31
   have hget:(L.map (·.o))[i]'(by simpa using hiL)=r.o:=by simp[hre]
   have hnext:lenO ((L.map (·.o)).take (i+1))=m+(5+dn):=by
    rw[List.take_succ_eq_append_getElem (by simpa using hiL),hget]
    unfold lenO
    rw[List.map_append,List.sum_append]
    have:=(uh HR).1
    unfold lenO at this
    rw[this,hdn]
    simp only[List.map_cons,List.map_nil,List.sum_cons,List.sum_nil,ObP.o]
    omega
   have hle:m+(5+dn)≤1152921504606846976:=by
    rw[← hnext]
    exact Nat.le_trans (zpo _ _) (uh HBD)
   obtain ⟨HNX,HIO,HIO2,HOO,HZS,HW3⟩:=zh6 hnext hiO hiO2 hoo hzs hW3
   have HBZ:=hide hBZ
   have HG3:=hide (tn (uh HR).2 g3)
   have hwi:IntKind.i64.wrap ((i:Int)+1)=(i:Int)+1:=by rw[IntKind.wrap_i64];omega
   have HH:=hide hr
   clear hr hnext hdn hget hre hOC hB3 hBZ hW3 hiO hiO2 hoo hzs g3 hr0 hb0
   go_wp2_with (first
    | (refine wpList_load_mid rfl 42 _ rfl b (o+i*2) rfl OC _ (uh HH) Tryz.underlying42 rfl (uh HIO) ?_;clear HH)
    | (refine wpList_store_row rfl 42 _ _ rfl wr.heap.size OC.toArray rfl rfl _ _ (uh HBZ) (uh HIO2) (uh HZS) (uh HOO) ?_;rw[← uh HW3]))
   go_roundw
   case rel=>exact ⟨i+1,m+(5+dn),by go_num,by go_num,by omega,hle,⟨(uh HNX).symm,uh HG3⟩⟩
   case measure=>simp[intOf];omega
  ·have hiz:¬ (i:Int)<(n:Int):=by omega
   go_wp2_with fail
   go_ret
   refine ⟨?_,(uh HR).2⟩
   have:=(uh HR).1
   rw[List.take_of_length_le (by simp;have:=uh HN;omega)] at this
   rw[this]
   rfl
end Go.Proofs.YtegbbkgmiklhcaaGreatDoor
