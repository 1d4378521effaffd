/- Lemmas. -/
import Derived.Test.YtegbbkgmiklhcaaGreatDoorPkB
namespace Go.Proofs.YtegbbkgmiklhcaaGreatDoor
open Go.RowKit
theorem zdj {α:Type} [DecidableEq α]:∀ {B:List α},¬ B.Nodup→∃ B' : List α,B'.length<B.length∧∀ x∈B,x∈B'
 | [],h=>absurd List.nodup_nil h
 | x::t,h=>by
  by_cases hx:x∈t
  ·exact ⟨t,by simp,fun y hy=>(List.mem_cons.1 hy).elim (fun e=>e ▸ hx) id⟩
  ·obtain ⟨t',h1,h2⟩:=zdj (fun ht=>h (List.nodup_cons.2 ⟨hx,ht⟩))
   exact ⟨x::t',by simp;omega,fun y hy=>by
    rcases List.mem_cons.1 hy with e | hy
    ·rw[e];simp
    ·exact List.mem_cons_of_mem _ (h2 y hy)⟩
theorem zej {α β:Type} {f:α→β} {l:List α} (h:(l.map f).Nodup):l.Nodup:=(List.pairwise_map.1 h).imp fun hab e=>hab (congrArg f e)
theorem KIx.len {l:List Ob} {K:List (List UInt8 × Value)} (h:KIx l l.length K) (hn:(K.map (·.1)).Nodup):K.length≤l.length∧(K.length<l.length↔¬ (l.map obId).Nodup):=by
 have hk:∀ x,x∈K.map (·.1)↔x∈l.map obId:=fun x=>by have:=h.keys x;rwa [List.take_length] at this
 have h1:K.length≤l.length:=by
  have:=zdy hn fun x hx=>(hk x).1 hx
  simpa using this
 refine ⟨h1,fun hl hd => ?_,fun hd => ?_⟩
 ·have:=zdy hd fun x hx=>(hk x).2 hx
  simp only[List.length_map] at this
  omega
 ·obtain ⟨B',b1,b2⟩:=zdj hd
  have:=zdy hn fun x hx=>b2 x ((hk x).1 hx)
  simp only[List.length_map] at this b1
  omega
theorem KIx.get {l:List Ob} {K:List (List UInt8 × Value)} (h:KIx l l.length K) {x:List UInt8} (hx:x∈l.map obId):∃ j:Nat,getK K x=some (.int .i64 (j:Int))∧∃ hj:j<l.length,obId l[j]=x:=by
 have hk:x∈K.map (·.1):=(h.keys x).2 (by rw[List.take_length];exact hx)
 obtain ⟨v,hv⟩:=Option.isSome_iff_exists.1 ((zfk K x).2 hk)
 obtain ⟨j,_,h2,h3,h4⟩:=h.val _ (zn4 hv)
 exact ⟨j,by rw[hv];exact congrArg some h2,h3,h4⟩
theorem zgv (l:List Ob):errP l=if 256<l.length then 3 else if errC l≠0 then errC l else if (l.map obId).Nodup then 0 else 14:=by
 unfold errP errC
 by_cases h1:256<l.length
 ·rw[if_pos h1,if_pos h1]
 ·rw[if_neg h1,if_neg h1]
  cases h2:l.find? (fun o=>zao o.1 o.2 != 0) with
  | none=>simp
  | some o =>
   have:=List.find?_some h2
   simp only[bne_iff_ne,ne_eq] at this
   simp[this]
theorem zn9 {l s:List Ob} {M:List (List UInt8)} (hc:l.length≤256) (hok:∀ o∈l,OkO o) (hnd:(l.map obId).Nodup) (hM:M.Perm (l.map obId)) (hf:zi9 M) (h1:s.map obId=M) (h2:∀ o∈s,o∈l):s.Perm l∧PackOf (zdo s) s:=by
 have hMn:M.Nodup:=hM.nodup_iff.2 hnd
 have hsn:s.Nodup:=by
  have:(s.map obId).Nodup:=by rw[h1];exact hMn
  exact zej this
 have hln:l.Nodup:=zej hnd
 have hp:s.Perm l:=(List.perm_ext_iff_of_nodup hsn hln).2 fun o=>⟨h2 o,fun ho=>by
  have:obId o∈s.map obId:=by rw[h1];exact hM.mem_iff.2 (List.mem_map.2 ⟨o,ho,rfl⟩)
  obtain ⟨q,hq,e⟩:=List.mem_map.1 this
  have:=zcx hnd (h2 q hq) ho e
  rw[← this]
  exact hq⟩
 refine ⟨hp,⟨by rw[hp.length_eq];exact hc,fun o ho=>hok o (h2 o ho),?_,rfl⟩⟩
 have hr:(s.map obId).Pairwise fun a b=>za4 a b=true:=by
  rw[h1]
  have hb:=List.Pairwise.and hf hMn
  refine List.Pairwise.imp (fun {a b} h => ?_) hb
  cases h3:za4 a b with
  | true=>rfl
  | false=>exact absurd (zex _ _ h3 h.1) h.2
 unfold RisO
 rw[List.pairwise_map] at hr
 exact hr
theorem zjb:∀ (n:Nat) (l:List UInt8),l.length=n→lb (be l) n=l:=by
 intro n
 induction n with
 | zero=>intro l h;rw[List.eq_nil_of_length_eq_zero h];simp[lb]
 | succ n ih =>
  intro l h
  obtain ⟨x,t,rfl⟩:∃ x t,l=t++[x]:=⟨l.getLast (by intro e;simp[e] at h),l.dropLast,(List.dropLast_concat_getLast _).symm⟩
  have ht:t.length=n:=by simpa using h
  have hx:=x.toNat_lt
  have hs:∀ v,lb v (n+1)=lb (v / 256) n++[UInt8.ofNat v]:=fun v=>by
   unfold lb
   rw[List.range_succ,List.map_append]
   congr 1
   ·apply List.map_congr_left
    intro i hi
    have hi:=List.mem_range.1 hi
    congr 1
    rw[show n+1 - 1 - i=(n - 1 - i)+1 from by omega,Nat.pow_succ,Nat.mul_comm,Nat.div_div_eq_div_mul]
   ·simp
  rw[hs,zf7,show (be t*256+x.toNat) / 256=be t from by omega,ih t ht]
  congr 2
  apply UInt8.toNat_inj.1
  simp
theorem zmj {l m:List UInt8} {o:Ob} (h:rdO l 0=(o,m,0)):l=obB o++m:=by
 unfold rdO numS at h
 have hnb:nb 1=1:=by decide
 simp only[hnb,if_true] at h
 by_cases h1:l.length<1
 ·rw[if_pos h1] at h
  simp[zak] at h
 ·rw[if_neg h1] at h
  obtain ⟨x,t,rfl⟩:∃ x t,l=x::t:=by
   cases l with
   | nil=>simp at h1
   | cons x t=>exact ⟨x,t,rfl⟩
  simp only[List.take_succ_cons,List.take_zero,List.drop_succ_cons,List.drop_zero] at h
  unfold zak at h
  simp only[if_true] at h
  by_cases h2:t.length<4
  ·rw[if_pos h2] at h;simp at h
  ·rw[if_neg h2] at h
   by_cases h3:65536<be (t.take 4)
   ·rw[if_pos h3] at h;simp at h
   ·rw[if_neg h3] at h
    by_cases h4:t.length<4+be (t.take 4)
    ·rw[if_pos h4] at h;simp at h
    ·rw[if_neg h4] at h
     simp only[Prod.mk.injEq,and_true] at h
     obtain ⟨ho,hm⟩:=h
     obtain ⟨k,d⟩:=o
     simp only[Prod.mk.injEq] at ho
     obtain ⟨hk,hd⟩:=ho
     have hbx:be [x]=x.toNat:=by simp[be]
     rw[hbx] at hk
     subst hk
     have hdl:d.length=be (t.take 4):=by rw[← hd];simp;omega
     have hlb:lb d.length 4=t.take 4:=by rw[hdl];exact zjb 4 _ (by simp;omega)
     unfold obB putL layS
     rw[hlb]
     have hx:UInt8.ofInt ((x.toNat:Nat):Int)=x:=by
      apply UInt8.toNat_inj.1
      have:=x.toNat_lt
      simp[UInt8.ofInt]
      omega
     simp only[hx]
     rw[← hm,← hd]
     simp only[List.cons_append,List.append_assoc,List.cons.injEq,true_and,List.nil_append]
     rw[List.take_append_drop,List.take_append_drop]
theorem zoa {n:Nat} {l m:List UInt8} {s:List Ob} (h:rdOs n l 0=(s,m,0)):l=s.flatMap obB++m∧s.length=n:=by
 induction n generalizing m s with
 | zero =>
  unfold rdOs at h
  simp only[Prod.mk.injEq,and_true] at h
  obtain ⟨rfl,rfl⟩:=h
  exact ⟨by simp,rfl⟩
 | succ n ih =>
  unfold rdOs at h
  obtain ⟨s0,m0,e0⟩:∃ a b,(rdOs n l 0).1=a∧(rdOs n l 0).2.1=b:=⟨_,_,rfl,rfl⟩
  obtain ⟨e0,e1⟩:=e0
  by_cases he:(rdOs n l 0).2.2=0
  ·have h0:rdOs n l 0=(s0,m0,0):=Prod.ext e0 (Prod.ext e1 he)
   obtain ⟨i1,i2⟩:=ih h0
   rw[h0] at h
   simp only[Prod.mk.injEq] at h
   obtain ⟨h1,h2,h3⟩:=h
   obtain ⟨o,ho⟩:∃ o,o=(rdO m0 0).1:=⟨_,rfl⟩
   have hr:rdO m0 0=(o,m,0):=Prod.ext ho.symm (Prod.ext h2 h3)
   have:=zmj hr
   rw[← h1,← ho]
   refine ⟨?_,by simp[i2]⟩
   rw[i1,this]
   simp
  ·exfalso
   simp only[Prod.mk.injEq] at h
   have h3:=h.2.2
   have:(rdO (rdOs n l 0).2.1 (rdOs n l 0).2.2).2.2=(rdOs n l 0).2.2:=by
    unfold rdO numS zak
    rw[if_neg he]
    simp only[if_neg he]
   rw[this] at h3
   exact he h3
def plC (x:List UInt8) (a n:Nat):List Value:=x.map bv++[.int .i64 (a:Int),.int .i64 (n:Int)]
def offO (s:List Ob) (j:Nat):Nat:=6+((s.take j).flatMap obB).length
structure KPl (s:List Ob) (K:List (List UInt8 × Value)):Prop where
 keys:∀ x,x∈K.map (·.1)↔x∈s.map obId
 get:∀ j (h:j<s.length),getK K (obId s[j])=some (.agg (plC (obId s[j]) (offO s j) (5+s[j].2.length)).toArray)
theorem KPl.nil:KPl [] []:=⟨by simp,fun j h=>by simp at h⟩
theorem KPl.put {s:List Ob} {K:List (List UInt8 × Value)} (h:KPl s K) {o:Ob} (hn:obId o∉s.map obId):KPl (s++[o]) (putK K (obId o) (.agg (plC (obId o) (6+(s.flatMap obB).length) (5+o.2.length)).toArray)):=by
 have hk:obId o∉K.map (·.1):=fun hh=>hn ((h.keys _).1 hh)
 have e:putK K (obId o) (.agg (plC (obId o) (6+(s.flatMap obB).length) (5+o.2.length)).toArray)=K++[(obId o,.agg (plC (obId o) (6+(s.flatMap obB).length) (5+o.2.length)).toArray)]:=by unfold putK;rw[if_neg hk]
 rw[e]
 refine ⟨fun x => ?_,fun j hj => ?_⟩
 ·rw[List.map_append,List.mem_append,List.map_append,List.mem_append,h.keys]
  simp
 ·have hl:j<s.length∨j=s.length:=by simp at hj;omega
  rcases hl with hl | rfl
  ·have e1:(s++[o])[j]=s[j]:=List.getElem_append_left hl
   have e2:offO (s++[o]) j=offO s j:=by unfold offO;rw[List.take_append_of_le_length (by omega)]
   rw[e1,e2]
   have:=h.get j hl
   unfold getK at this ⊢
   rw[List.find?_append]
   cases hf:K.find? (fun p=>p.1 == obId s[j]) with
   | none=>rw[hf] at this;cases this
   | some p=>rw[hf] at this;simpa using this
  ·have e1:(s++[o])[s.length]=o:=by simp
   have e2:offO (s++[o]) s.length=6+(s.flatMap obB).length:=by unfold offO;simp
   rw[e1,e2]
   unfold getK
   have hf:K.find? (fun p=>p.1 == obId o)=none:=List.find?_eq_none.2 fun p hp=>by
    have:p.1≠obId o:=fun e=>hk (List.mem_map.2 ⟨p,hp,e⟩)
    simpa using this
   rw[List.find?_append,hf]
   simp
theorem zmk {b:List UInt8} {t:List Ob} (h:PackOf b t) {i:Nat} {s:List Ob} {m:List UInt8} (hr:rdOs i (t.flatMap obB) 0=(s,m,0)) (hi:i<t.length) :
  ∃ o m',rdO m 0=(o,m',0)∧OkO o∧∀ x,s.getLast? = some x→za4 (obId x) (obId o)=true:=by
 have h1:=zgs t i [] h.ok (by omega)
 rw[List.append_nil,hr] at h1
 simp only[Prod.mk.injEq,and_true,List.append_nil] at h1
 obtain ⟨rfl,rfl⟩:=h1
 rw[List.drop_eq_getElem_cons hi,List.flatMap_cons]
 refine ⟨t[i],(t.drop (i+1)).flatMap obB,zh9 (h.ok _ (List.getElem_mem hi)) _,h.ok _ (List.getElem_mem hi),fun x hx => ?_⟩
 have hi0:0<i:=by
  rcases Nat.eq_zero_or_pos i with rfl | h0
  ·simp at hx
  ·exact h0
 rw[List.getLast?_eq_getElem?] at hx
 have hl:(t.take i).length=i:=by simp;omega
 rw[hl,List.getElem?_take_of_lt (by omega),List.getElem?_eq_getElem (by omega)] at hx
 injection hx with hx
 rw[← hx]
 exact List.pairwise_iff_getElem.1 h.ris (i - 1) i (by omega) hi (by omega)
structure Opn (b:List UInt8) (n i:Nat) (s:List Ob) (li:List UInt8):Prop where
 mark:b.take 4=[67,80,75,49]
 head:∃ m,numS (b.drop 4) 0 2=(n,m,0)∧rdOs i m 0=(s,li,0)
 ok:∀ o∈s,OkO o
 ris:RisO s
theorem zml {l m:List UInt8} {n:Nat} (h:numS l 0 2=(n,m,0)):l=lb n 2++m∧n<65536:=by
 unfold numS at h
 have hnb:nb 2=2:=by decide
 simp only[hnb,if_true] at h
 by_cases h1:l.length<2
 ·rw[if_pos h1] at h;simp at h
 ·rw[if_neg h1] at h
  simp only[Prod.mk.injEq,and_true] at h
  obtain ⟨h2,h3⟩:=h
  have hl:(l.take 2).length=2:=by simp;omega
  have h4:=zjh (l.take 2)
  rw[hl] at h4
  refine ⟨?_,by omega⟩
  rw[← h2,zjb 2 _ hl,← h3,List.take_append_drop]
theorem Opn.start {b m:List UInt8} {n:Nat} (h:b.take 4=[67,80,75,49]) (hn:numS (b.drop 4) 0 2=(n,m,0)):Opn b n 0 [] m :=
 ⟨h,⟨m,hn,rfl⟩,by simp,List.Pairwise.nil⟩
theorem Opn.eq {b li:List UInt8} {n i:Nat} {s:List Ob} (h:Opn b n i s li):b=zdg n++(s.flatMap obB++li)∧s.length=i:=by
 obtain ⟨m,h1,h2⟩:=h.head
 obtain ⟨e1,e2⟩:=zoa h2
 refine ⟨?_,e2⟩
 have e3:=(zml h1).1
 rw[← List.take_append_drop 4 b,h.mark,e3,e1]
 simp[zdg]
theorem Opn.at {b li:List UInt8} {n i:Nat} {s:List Ob} (h:Opn b n i s li):b.length=6+(s.flatMap obB).length+li.length:=by
 have:=congrArg List.length h.eq.1
 rw[List.length_append,zfe,List.length_append] at this
 omega
theorem Opn.falls {b li l2:List UInt8} {n i:Nat} {s:List Ob} (h:Opn b n i s li) (hi:i<n) {o:Ob} {e:Int} (hr:rdO li 0=(o,l2,e)) (hf:e≠0∨¬ OkO o∨∃ x,s.getLast? = some x∧za4 (obId x) (obId o)=false):∀ t,¬ PackOf b t:=by
 intro t ht
 obtain ⟨m,h1,h2⟩:=h.head
 obtain ⟨-,-,h3,h4⟩:=zb2 ht
 rw[h1] at h3
 injection h3 with e1 e2
 injection e2 with e2 _
 subst e1 e2
 obtain ⟨p,m2,q1,q2,q3⟩:=zmk ht h2 hi
 rw[hr] at q1
 injection q1 with r1 r2
 injection r2 with r2 r3
 subst r1
 rcases hf with hf | hf | ⟨x,hx,hf⟩
 ·exact hf r3
 ·exact hf q2
 ·rw[q3 x hx] at hf;cases hf
theorem zjc {s:List Ob} (h:RisO s) {o:Ob} (hl:∀ x,s.getLast? = some x→za4 (obId x) (obId o)=true):RisO (s++[o]):=by
 refine List.pairwise_append.2 ⟨h,List.pairwise_singleton _ _,fun a ha y hy => ?_⟩
 rw[List.mem_singleton] at hy
 subst hy
 rcases List.eq_nil_or_concat s with rfl | ⟨t,x,rfl⟩
 ·cases ha
 ·have hx:=hl x (by simp)
  rw[List.concat_eq_append] at ha h
  rcases List.mem_append.1 ha with ha | ha
  ·exact zdk _ _ _ ((List.pairwise_append.1 h).2.2 a ha x (by simp)) hx
  ·rw[List.mem_singleton] at ha
   rw[ha];exact hx
theorem Opn.next {b li l2:List UInt8} {n i:Nat} {s:List Ob} (h:Opn b n i s li) {o:Ob} (hr:rdO li 0=(o,l2,0)) (ho:OkO o) (hl:∀ x,s.getLast? = some x→za4 (obId x) (obId o)=true):Opn b n (i+1) (s++[o]) l2∧li.length=5+o.2.length+l2.length:=by
 obtain ⟨m,h1,h2⟩:=h.head
 refine ⟨⟨h.mark,⟨m,h1,?_⟩,fun p hp => ?_,zjc h.ris hl⟩,?_⟩
 ·unfold rdOs
  rw[h2]
  simp only
  rw[hr]
 ·rcases List.mem_append.1 hp with hp | hp
  ·exact h.ok p hp
  ·rw[List.mem_singleton] at hp
   rw[hp];exact ho
 ·have:=congrArg List.length (zmj hr)
  rw[List.length_append,zi2] at this
  exact this
theorem Opn.fresh {s:List Ob} (h:RisO s) {o:Ob} (hl:∀ x,s.getLast? = some x→za4 (obId x) (obId o)=true):obId o∉s.map obId:=by
 have:=(zjc h hl).nodup
 rw[List.map_append,List.nodup_append] at this
 intro hm
 exact this.2.2 _ hm _ (by simp) rfl
theorem Opn.ends {b:List UInt8} {n:Nat} {s:List Ob} (h:Opn b n n s []) (hn:n≤256):PackOf b s:=by
 obtain ⟨e1,e2⟩:=h.eq
 refine ⟨by omega,h.ok,h.ris,?_⟩
 rw[e1,List.append_nil,zdo,e2]
theorem Opn.left {b li:List UInt8} {n:Nat} {s:List Ob} (h:Opn b n n s li) (hl:li≠[]):∀ t,¬ PackOf b t:=by
 intro t ht
 obtain ⟨m,h1,h2⟩:=h.head
 obtain ⟨-,-,h3,h4⟩:=zb2 ht
 rw[h1] at h3
 injection h3 with e1 e2
 injection e2 with e2 _
 subst e1 e2
 rw[h2] at h4
 injection h4 with _ q
 injection q with q _
 exact hl q
theorem zpw {b:List UInt8} (h:(rawS b 0 4).1≠[67,80,75,49]):∀ t,¬ PackOf b t:=by
 intro t ht
 obtain ⟨h1,h2,-,-⟩:=zb2 ht
 apply h
 unfold rawS
 rw[if_pos rfl,if_neg (by simp;omega)]
 exact h2
theorem zpx {b:List UInt8} (h:(rawS b 0 4).1=[67,80,75,49]):b.take 4=[67,80,75,49]∧rawS b 0 4=(b.take 4,b.drop 4,0):=by
 unfold rawS at h ⊢
 rw[if_pos rfl] at h ⊢
 by_cases hl:b.length<(4:Int).toNat
 ·rw[if_pos hl] at h;simp at h
 ·rw[if_neg hl] at h ⊢
  exact ⟨h,rfl⟩
theorem zot {b m:List UInt8} {n:Nat} {e:Int} (h:numS (b.drop 4) 0 2=(n,m,e)) (hf:e≠0∨256<n):∀ t,¬ PackOf b t:=by
 intro t ht
 obtain ⟨-,-,h3,h4⟩:=zb2 ht
 rw[h] at h3
 injection h3 with e1 e2
 injection e2 with _ e3
 have:=ht.few
 rcases hf with hf | hf
 ·exact hf e3
 ·omega
theorem zob {l m:List UInt8} {n:Nat} {e:Int} (h:numS l 0 2=(n,m,e)) (he:e≠0):n=0∧m=[]:=by
 unfold numS at h
 rw[if_pos rfl] at h
 split at h
 ·injection h with e1 e2
  injection e2 with e2 _
  exact ⟨e1.symm,e2.symm⟩
 ·injection h with e1 e2
  injection e2 with _ e3
  exact absurd e3.symm he
end Go.Proofs.YtegbbkgmiklhcaaGreatDoor
