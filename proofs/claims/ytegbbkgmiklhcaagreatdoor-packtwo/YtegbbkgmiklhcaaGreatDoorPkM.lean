/- Lemmas. -/
import Derived.Test.YtegbbkgmiklhcaaGreatDoorOTell
import Derived.Test.YtegbbkgmiklhcaaGreatDoorSMath
namespace Go.Proofs.YtegbbkgmiklhcaaGreatDoor
open Go.RowKit
def Ris (l:List (List UInt8)):Prop:=l.Pairwise fun a b=>za5 a b=true
theorem zin {a b:List UInt8} (h:za5 a b=true):a≠b:=by
 rintro rfl
 rw[zhc] at h
 cases h
theorem Ris.nodup {l:List (List UInt8)} (h:Ris l):l.Nodup:=List.Pairwise.imp zin h
theorem Ris.filter {l:List (List UInt8)} (h:Ris l) (p:List UInt8→Bool):Ris (l.filter p):=List.Pairwise.filter p h
theorem Ris.cons {x:List UInt8} {l:List (List UInt8)} (h:Ris (x::l)):(∀ y∈l,za5 x y=true)∧Ris l:=List.pairwise_cons.1 h
theorem Ris.ext:∀ {a b:List (List UInt8)},Ris a→Ris b→(∀ x,x∈a↔x∈b)→a=b
 | [],[],_,_,_=>rfl
 | [],y::b,_,_,h=>absurd ((h y).2 (by simp)) (by simp)
 | x::a,[],_,_,h=>absurd ((h x).1 (by simp)) (by simp)
 | x::a,y::b,ha,hb,h=>by
  have hxy:x=y:=by
   rcases List.mem_cons.1 ((h x).1 (by simp)) with h1 | h1
   ·exact h1
   ·rcases List.mem_cons.1 ((h y).2 (by simp)) with h2 | h2
    ·exact h2.symm
    ·have h3:=ze6 _ _ (hb.cons.1 x h1)
     rw[ha.cons.1 y h2] at h3
     cases h3
  subst hxy
  rw[Ris.ext ha.cons.2 hb.cons.2 fun z => ?_]
  constructor
  ·intro hz
   rcases List.mem_cons.1 ((h z).1 (by simp[hz])) with h1 | h1
   ·exact absurd h1.symm (zin (ha.cons.1 z hz))
   ·exact h1
  ·intro hz
   rcases List.mem_cons.1 ((h z).2 (by simp[hz])) with h1 | h1
   ·exact absurd h1.symm (zin (hb.cons.1 z hz))
   ·exact h1
theorem zey {α:Type} [DecidableEq α]:∀ {K U:List α},K.Nodup→(∀ x∈K,x∈U)→K.length≤U.length
 | [],_,_,_=>Nat.zero_le _
 | x::K,U,hn,h=>by
  have hc:=List.nodup_cons.1 hn
  have hx:=h x (by simp)
  have h1:K.length≤(U.erase x).length:=zey hc.2 fun y hy=>(List.mem_erase_of_ne (fun e=>hc.1 (by rw[← e];exact hy))).2 (h y (by simp[hy]))
  have h2:=List.length_erase_of_mem hx
  have h3:0<U.length:=List.length_pos_of_mem hx
  rw[List.length_cons]
  omega
inductive Rch (nx:List UInt8→List (List UInt8)) (R:List (List UInt8)):List UInt8→Prop
 | root {x:List UInt8} : x∈R→Rch nx R x
 | next {x y:List UInt8} : Rch nx R x→y∈nx x→Rch nx R y
theorem Rch.mono {nx:List UInt8→List (List UInt8)} {R Q:List (List UInt8)} (h:∀ x∈R,Rch nx Q x) {x:List UInt8} (hx:Rch nx R x):Rch nx Q x:=by
 induction hx with
 | root hm=>exact h _ hm
 | next _ hm ih=>exact .next ih hm
theorem Rch.more {nx:List UInt8→List (List UInt8)} {R Q:List (List UInt8)} (h:∀ x∈R,x∈Q) {x:List UInt8} (hx:Rch nx R x):Rch nx Q x:=hx.mono fun x hm => .root (h x hm)
theorem Rch.none {nx:List UInt8→List (List UInt8)} {x:List UInt8} (hx:Rch nx [] x):False:=by
 induction hx with
 | root h=>simp at h
 | next _ _ ih=>exact ih
theorem Rch.to {nx my:List UInt8→List (List UInt8)} {R:List (List UInt8)} (h:∀ x,Rch nx R x→nx x=my x) {x:List UInt8} (hx:Rch nx R x):Rch my R x:=by
 induction hx with
 | root hm=>exact .root hm
 | next h1 hm ih=>exact .next ih (by rw[← h _ h1];exact hm)
theorem Rch.in {nx:List UInt8→List (List UInt8)} {R:List (List UInt8)} {p:List UInt8→Prop} (h0:∀ x∈R,p x) (h1:∀ x,p x→∀ y∈nx x,p y) {x:List UInt8} (hx:Rch nx R x):p x:=by
 induction hx with
 | root hm=>exact h0 _ hm
 | next _ hm ih=>exact h1 _ ih _ hm
structure ObE where
 id:List UInt8
 k:Int
 d:List UInt8
deriving Inhabited,DecidableEq
def lkS (S:List ObE) (x:List UInt8):Option ObE:=S.find? fun e=>e.id == x
def hasS (S:List ObE) (x:List UInt8):Bool:=(lkS S x).isSome
def idsS (S:List ObE):List (List UInt8):=S.map (·.id)
def nxO (o:Option ObE):List (List UInt8):=match o with | some e=>zb8 e.k e.d | .none=>[]
def prO (o:Option ObE):List (List UInt8):=match o with | some e=>(telC e.k e.d).2.pars | .none=>[]
def nxS (S:List ObE) (x:List UInt8):List (List UInt8):=nxO (lkS S x)
def prS (S:List ObE) (x:List UInt8):List (List UInt8):=prO (lkS S x)
def putS:List ObE→ObE→List ObE
 | [],e=>[e]
 | x::l,e=>if za5 x.id e.id=true then x::putS l e else if x.id=e.id then e::l else e::x::l
def dropS (S:List ObE) (x:List UInt8):List ObE:=S.filter fun e=>e.id != x
structure SetS (S:List ObE):Prop where
 ris:Ris (idsS S)
 len:∀ e∈S,e.id.length=32
 is:∀ e∈S,e.id=shaL (putL e.k e.d)
 ok:∀ e∈S,zar e.k e.d=0
 few:S.length≤1000
abbrev Ob:=Int × List UInt8
def obB (o:Ob):List UInt8:=putL o.1 o.2
def obId (o:Ob):List UInt8:=shaL (obB o)
def zdh (n:Nat):List UInt8:=[67,80,75,49]++lb n 2
def zdp (s:List Ob):List UInt8:=zdh s.length++s.flatMap obB
def RisO (s:List Ob):Prop:=s.Pairwise fun a b=>za5 (obId a) (obId b)=true
def OkO (o:Ob):Prop:=zar o.1 o.2=0
structure PackOf (b:List UInt8) (s:List Ob):Prop where
 few:s.length≤256
 ok:∀ o∈s,OkO o
 ris:RisO s
 eq:b=zdp s
theorem zdq {o:Ob} (h:OkO o):∃ k:Nat,o.1=(k:Int)∧1≤k∧k≤4∧o.2.length≤16384:=by
 unfold OkO zar at h
 by_cases h1:o.1<1∨4<o.1
 ·rw[if_pos h1] at h;cases h
 ·rw[if_neg h1] at h
  by_cases h2:16384<o.2.length
  ·rw[if_pos h2] at h;cases h
  ·exact ⟨o.1.toNat,by omega,by omega,by omega,by omega⟩
theorem zfn (o:Ob):(obB o).length=5+o.2.length:=by
 unfold obB putL layS
 simp[zbp]
 omega
def rdO (l:List UInt8) (e:Int):Ob × List UInt8 × Int :=
 let a:=numS l e 1
 let s:=zak a.2.1 a.2.2
 (((a.1:Int),s.1),s.2.1,s.2.2)
theorem zio {o:Ob} (h:OkO o) (m:List UInt8):rdO (obB o++m) 0=(o,m,0):=by
 obtain ⟨k,h1,h2,h3,h4⟩:=zdq h
 obtain ⟨ok,od⟩:=o
 simp only at h1 h4
 subst h1
 unfold rdO obB
 simp only
 rw[zqk k (by omega) od m]
 have e1:=zlu k (by omega) (layS od++m)
 have e2:=zj1 od m (by omega)
 simp only[e1,e2]
def rdOs:Nat→List UInt8→Int→List Ob × List UInt8 × Int
 | 0,l,e=>([],l,e)
 | n+1,l,e=>let a:=rdOs n l e;let b:=rdO a.2.1 a.2.2;(a.1++[b.1],b.2.1,b.2.2)
theorem zjg (s:List Ob):∀ (n:Nat) (m:List UInt8),(∀ o∈s,OkO o)→n≤s.length→rdOs n (s.flatMap obB++m) 0=(s.take n,(s.drop n).flatMap obB++m,0):=by
 intro n m h hn
 induction n with
 | zero=>simp[rdOs]
 | succ n ih =>
  have hl:n<s.length:=by omega
  have e:=ih (by omega)
  unfold rdOs
  rw[e]
  simp only
  rw[List.drop_eq_getElem_cons hl,List.flatMap_cons,List.append_assoc,zio (h _ (List.getElem_mem hl)),List.take_succ_eq_append_getElem hl]
theorem zfo (n:Nat):(zdh n).length=6:=by simp[zdh,zbp]
theorem zhl {s:List Ob} : (zdp s).take 4=[67,80,75,49]∧(zdp s).drop 4=lb s.length 2++s.flatMap obB:=by
 constructor <;> simp[zdp,zdh]
theorem zfp {s:List Ob} (h:∀ o∈s,OkO o) (hl:s.length≤256):numS ((zdp s).drop 4) 0 2=(s.length,s.flatMap obB,0)∧rdOs s.length (s.flatMap obB) 0=(s,[],0):=by
 constructor
 ·rw[zhl.2,zlp _ (by omega)]
 ·have:=zjg s s.length [] h (Nat.le_refl _)
  simpa using this
theorem PackOf.one {b:List UInt8} {s t:List Ob} (hs:PackOf b s) (ht:PackOf b t):s=t:=by
 have e:zdp s=zdp t:=by rw[← hs.eq,ht.eq]
 have h1:=zfp hs.ok hs.few
 have h2:=zfp ht.ok ht.few
 rw[e,h2.1] at h1
 have hl:t.length=s.length:=by have:=h1.1;injection this
 have hf:t.flatMap obB=s.flatMap obB:=by have:=h1.1;injection this with _ q;injection q
 have h3:=h1.2
 rw[← hl,← hf,h2.2] at h3
 injection h3 with q
 exact q.symm
theorem zov {α:Type} {R:α→α→Prop} (asym:∀ a b,R a b→¬ R b a):∀ {s t:List α},s.Pairwise R→t.Pairwise R→(∀ x,x∈s↔x∈t)→s=t
 | [],[],_,_,_=>rfl
 | [],y::t,_,_,h=>absurd ((h y).2 (by simp)) (by simp)
 | x::s,[],_,_,h=>absurd ((h x).1 (by simp)) (by simp)
 | x::s,y::t,hs,ht,h=>by
  have h1:=List.pairwise_cons.1 hs
  have h2:=List.pairwise_cons.1 ht
  have irr:∀ a,¬ R a a:=fun a q=>asym a a q q
  have hxy:x=y:=by
   rcases List.mem_cons.1 ((h x).1 (by simp)) with e | e
   ·exact e
   ·rcases List.mem_cons.1 ((h y).2 (by simp)) with f | f
    ·exact f.symm
    ·exact absurd (h1.1 y f) (asym _ _ (h2.1 x e))
  subst hxy
  rw[zov asym h1.2 h2.2 fun z => ?_]
  constructor
  ·intro hz
   rcases List.mem_cons.1 ((h z).1 (by simp[hz])) with e | e
   ·subst e;exact absurd (h1.1 z hz) (irr z)
   ·exact e
  ·intro hz
   rcases List.mem_cons.1 ((h z).2 (by simp[hz])) with e | e
   ·subst e;exact absurd (h2.1 z hz) (irr z)
   ·exact e
theorem RisO.ext {s t:List Ob} (hs:RisO s) (ht:RisO t) (h:∀ x,x∈s↔x∈t):s=t :=
 zov (fun a b q r=>by rw[ze6 _ _ q] at r;cases r) hs ht h
theorem RisO.ids {s:List Ob} (h:RisO s):Ris (s.map obId):=by
 unfold Ris
 rw[List.pairwise_map]
 exact h
theorem RisO.nodup {s:List Ob} (h:RisO s):(s.map obId).Nodup:=h.ids.nodup
def errP (l:List Ob):Int :=
 if 256<l.length then 3 else match l.find? fun o=>zar o.1 o.2 != 0 with
  | some o=>zar o.1 o.2
  | none=>if (l.map obId).Nodup then 0 else 14
def PutP (l:List Ob) (b:List UInt8) (e:Int):Prop:=e=errP l∧(e≠0→b=[])∧(e=0→∃ s,s.Perm l∧PackOf b s)
theorem PutP.one {l:List Ob} {b c:List UInt8} {e f:Int} (h:PutP l b e) (k:PutP l c f):b=c∧e=f:=by
 have he:e=f:=by rw[h.1,k.1]
 subst he
 refine ⟨?_,rfl⟩
 by_cases h0:e=0
 ·obtain ⟨s,p1,q1⟩:=h.2.2 h0
  obtain ⟨t,p2,q2⟩:=k.2.2 h0
  have:s=t:=q1.ris.ext q2.ris fun x=>by rw[p1.mem_iff,p2.mem_iff]
  rw[q1.eq,q2.eq,this]
 ·rw[h.2.1 h0,k.2.1 h0]
theorem PutP.of {b:List UInt8} {s:List Ob} (h:PackOf b s):PutP s b 0:=by
 refine ⟨?_,fun q=>absurd rfl q,fun _=>⟨s,List.Perm.refl _,h⟩⟩
 unfold errP
 rw[if_neg (by have:=h.few;omega)]
 have hf:s.find? (fun o=>zar o.1 o.2 != 0)=none:=List.find?_eq_none.2 fun o ho=>by
  have:=h.ok o ho
  unfold OkO at this
  simp[this]
 rw[hf]
 simp only
 rw[if_pos h.ris.nodup]
theorem PutP.pack {l:List Ob} {b:List UInt8} (h:PutP l b 0):∃ s,s.Perm l∧PackOf b s:=h.2.2 rfl
theorem zjh (s:List Ob):(zdp s).length=6+(s.map fun o=>5+o.2.length).sum:=by
 unfold zdp
 rw[List.length_append,zfo]
 congr 1
 induction s with
 | nil=>rfl
 | cons o s ih =>
  rw[List.flatMap_cons,List.length_append,ih,List.map_cons,List.sum_cons]
  rw[zfn o]
end Go.Proofs.YtegbbkgmiklhcaaGreatDoor
