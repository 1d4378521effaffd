/- Lemmas. -/
import Derived.Test.YtegbbkgmiklhcaaGreatDoorOData
import Derived.MapKept
import Derived.Carry
import Derived.Stop.BytesEq
import GoSem.Builtin.Delete
import GoSem.Extern.MapsClone
import Derived.Test.YtegbbkgmiklhcaaGreatDoorMTk
import Derived.Lib.BytesEntry
import Derived.Lib.Bytealg
import Derived.Sort.Grow
import Derived.Deep.DeepCutAuto
import Derived.Deep.MidRow
namespace Go.Proofs.YtegbbkgmiklhcaaGreatDoor
open Go.RowKit
set_option maxRecDepth 100000
def keyV (x:List UInt8):Value := .agg (x.map bv).toArray
theorem zmj (w:World) (a b:List UInt8) (ha:a.length=32) (hb:b.length=32):(Op.equal 47 (keyV a) (keyV b)).run Tryz.prog w = .ok (a == b) w :=
 run_equalIn_bytes w 9998 47 5 32 Tryz.underlying47 Tryz.underlying5 zau a b ha hb
theorem zhs (w:World) (b:Bool) (a:List UInt8) (ha:a.length=32):(Instr.checkKey b 10000 47 (keyV a)).run Tryz.prog w = .ok () w:=by
 unfold Instr.checkKey keyV
 simp only[Sem.run_bind,run_underlying Tryz.underlying47,Result.andThen_ok,Std.Legacy.Range.forIn_eq_forIn_range',Std.Legacy.Range.size,Nat.sub_zero,Nat.add_sub_cancel,Nat.div_one]
 have hl:∀ i∈List.range' 0 32 1,i<32:=fun i hi=>by simpa using (List.mem_range'_1.1 hi).2
 generalize List.range' 0 32 1=l at hl ⊢
 induction l with
 | nil=>simp
 | cons i l ih =>
  have hi:i<a.length:=by rw[ha];exact hl i (by simp)
  have ih:=ih fun j hj=>hl j (by simp[hj])
  have hp:(part 5 (a.map bv).toArray (i*1)).run Tryz.prog w = .ok (bv a[i]) w:=by
   simp[part,Result.andThen,hi]
  have hc:(Instr.checkKey b 9999 5 (bv a[i])).run Tryz.prog w = .ok () w:=MapKept.run_checkKey (d := .int .u8) Tryz.underlying5 (by simp[MapKept.IsKey,bv]) b 9998
  simp only[List.forIn_cons,Sem.run_bind,zau,Result.andThen_ok,hp,hc,Sem.run_pure]
  exact ih
theorem zoa (a:List UInt8):Instr.sameBits 10000 (keyV a) (keyV a)=true:=by
 unfold Instr.sameBits keyV
 simp only[beq_self_eq_true,Bool.true_and]
 rw[List.all_eq_true]
 rintro ⟨x,y⟩ h
 have:x=y∧∃ u,x=bv u:=by
  have h2:=List.mem_iff_getElem?.1 h
  obtain ⟨i,hi⟩:=h2
  rw[List.getElem?_zip_eq_some] at hi
  obtain ⟨h3,h4⟩:=hi
  simp only at h3 h4
  rw[h3] at h4
  injection h4 with h4
  refine ⟨h4,?_⟩
  have h5:=List.mem_of_getElem? h3
  obtain ⟨u,_,rfl⟩:=List.mem_map.1 h5
  exact ⟨u,rfl⟩
 obtain ⟨rfl,u,rfl⟩:=this
 simp[Instr.sameBits,bv]
structure MapAt (w:World) (m:Nat) (K:List (List UInt8 × Value)):Prop where
 is:∃ A clock,w.heap[m]? = some (.map A clock)∧A.toList.map (fun e=>(e.key,e.val))=K.map (fun p=>(keyV p.1,p.2))∧(∀ e∈A.toList,e.born<clock)∧(A.toList.map (·.born)).Nodup
 once:(K.map (·.1)).Nodup
 wide:∀ p∈K,p.1.length=32
theorem MapAt.lt {w:World} {m:Nat} {K:List (List UInt8 × Value)} (h:MapAt w m K):m<w.heap.size:=by
 obtain ⟨_,_,h,_⟩:=h.is
 exact (Array.getElem?_eq_some_iff.1 h).1
theorem MapAt.same {w a:World} {m:Nat} {K:List (List UInt8 × Value)} (h:MapAt w m K) (g:a.heap[m]? = w.heap[m]?):MapAt a m K:=by
 obtain ⟨A,c,h1,h2⟩:=h.is
 exact ⟨⟨A,c,by rw[g];exact h1,h2⟩,h.once,h.wide⟩
theorem MapAt.kept {w a:World} {m:Nat} {K:List (List UInt8 × Value)} {r:Option Nat} (h:MapAt w m K) (g:w.grownBy a r) (hr:some m≠r):MapAt a m K:=h.same (g.block m h.lt hr)
theorem MapAt.none {w a:World} {m:Nat} {K:List (List UInt8 × Value)} (h:MapAt w m K) (g:w.grownBy a Option.none):MapAt a m K:=h.kept g (by simp)
theorem MapAt.new (w:World):MapAt (w.alloc (.map #[] 0)) w.heap.size []:=⟨⟨#[],0,heap_alloc_new w _,rfl,by simp,by simp⟩,by simp,by simp⟩
theorem MapAt.blk {w:World} {m b:Nat} {K:List (List UInt8 × Value)} {t:TypeId} {cs:List Value} (h:MapAt w m K) (hb:Blk w b t cs):m≠b:=by
 rintro rfl
 obtain ⟨_,_,h,_⟩:=h.is
 unfold Blk at hb
 rw[hb] at h
 cases h
theorem MapAt.typ {w:World} {m:Nat} {K:List (List UInt8 × Value)} (h:MapAt w m K):¬ Typ w m:=by
 rintro ⟨_,_,h2⟩
 obtain ⟨_,_,h,_⟩:=h.is
 rw[h2] at h
 cases h
theorem MapAt.own {w:World} {m base k n:Nat} {K:List (List UInt8 × Value)} {t:TypeId} {v:Value} {xs:List Value} (h:MapAt w m K) (ho:w.ownsRow base t k v n xs):some m≠v.ownBlock:=by
 obtain ⟨_,_,h,_⟩:=h.is
 rcases ho.2 with ⟨rfl,_⟩ | ⟨g,cap,cur,rfl,_,hh,_⟩
 ·intro e;cases e
 ·intro e
  have:m=g:=by simpa[Value.ownBlock] using e
  subst this
  rw[hh] at h
  cases h
theorem zmk {w a:World} {m base k n:Nat} {K:List (List UInt8 × Value)} {t:TypeId} {v:Value} {xs:List Value} (ho:w.ownsRow base t k v n xs) (h:MapAt w m K) (g:w.grownBy a (some m)):a.ownsRow base t k v n xs:=by
 refine ⟨ho.1,?_⟩
 have hne:=h.own ho
 rcases ho.2 with h1 | ⟨p,cap,cur,hv,hg,hh,hr⟩
 ·exact Or.inl h1
 ·subst hv
  refine Or.inr ⟨p,cap,cur,rfl,hg,?_,hr⟩
  rw[g.block p (Array.getElem?_eq_some_iff.1 hh).1 (fun e=>hne (by rw[← e];rfl))]
  exact hh
def getK (K:List (List UInt8 × Value)) (x:List UInt8):Option Value:=(K.find? fun p=>p.1 == x).map (·.2)
def putK (K:List (List UInt8 × Value)) (x:List UInt8) (v:Value):List (List UInt8 × Value):=if x∈K.map (·.1) then K.map fun p=>if p.1=x then (x,v) else p else K++[(x,v)]
def delK (K:List (List UInt8 × Value)) (x:List UInt8):List (List UInt8 × Value):=K.filter fun p=>p.1 != x
theorem zft (K:List (List UInt8 × Value)) (x:List UInt8):(getK K x).isSome=true↔x∈K.map (·.1):=by
 unfold getK
 rw[Option.isSome_map,List.find?_isSome]
 constructor
 ·rintro ⟨p,hp,h⟩
  exact List.mem_map.2 ⟨p,hp,by simpa using h⟩
 ·intro h
  obtain ⟨p,hp,rfl⟩:=List.mem_map.1 h
  exact ⟨p,hp,by simp⟩
theorem zht {K:List (List UInt8 × Value)} {x:List UInt8} (h:x∉K.map (·.1)):getK K x=none:=by
 cases hg:getK K x with
 | none=>rfl
 | some v=>exact absurd ((zft K x).1 (by rw[hg];rfl)) h
theorem zob {K:List (List UInt8 × Value)} {x:List UInt8} {v:Value} (h:getK K x=some v):(x,v)∈K:=by
 unfold getK at h
 obtain ⟨p,hp,rfl⟩:=Option.map_eq_some_iff.1 h
 have h1:=List.mem_of_find?_eq_some hp
 have h2:p.1=x:=by simpa using List.find?_some hp
 obtain ⟨a,b⟩:=p
 simp only at h2
 subst h2
 exact h1
theorem zcw {α β:Type} {f:α→β} : ∀ {K:List α},(K.map f).Nodup→∀ {a b:α},a∈K→b∈K→f a=f b→a=b
 | [],_,_,_,h,_,_=>by simp at h
 | x::K,hn,a,b,ha,hb,h=>by
  have hc:=List.nodup_cons.1 hn
  rcases List.mem_cons.1 ha with h1 | h1
  ·rcases List.mem_cons.1 hb with h2 | h2
   ·rw[h1,h2]
   ·exact absurd (by rw[← h1,h];exact List.mem_map.2 ⟨b,h2,rfl⟩) hc.1
  ·rcases List.mem_cons.1 hb with h2 | h2
   ·exact absurd (by rw[← h2,← h];exact List.mem_map.2 ⟨a,h1,rfl⟩) hc.1
   ·exact zcw hc.2 h1 h2 h
theorem zjj (w:World) (x:List UInt8) (hx:x.length=32):∀ (l:List MapEntry) (K:List (List UInt8 × Value)) (i:Nat),l.map (fun e=>(e.key,e.val))=K.map (fun p=>(keyV p.1,p.2))→(∀ p∈K,p.1.length=32) →
  (x∉K.map (·.1)∧(Instr.findAsking 47 (keyV x) l i).run Tryz.prog w = .ok none w) ∨
   ∃ (j:Nat) (hj:j<K.length),K[j].1=x∧(∀ q (hq:q<j),(K[q]'(by omega)).1≠x)∧(Instr.findAsking 47 (keyV x) l i).run Tryz.prog w = .ok (some (i+j,K[j].2)) w
 | [],[],_,_,_=>Or.inl ⟨by simp,by simp[Instr.findAsking]⟩
 | [],_::_,_,h,_=>by simp at h
 | _::_,[],_,h,_=>by simp at h
 | e::l,p::K,i,h,hw=>by
  simp only[List.map_cons,List.cons.injEq,Prod.mk.injEq] at h
  obtain ⟨⟨h1,h2⟩,h3⟩:=h
  have hs:=zmj w x p.1 hx (hw p (by simp))
  rw[← h1] at hs
  by_cases hp:p.1=x
  ·refine Or.inr ⟨0,by simp,hp,fun q hq=>by omega,?_⟩
   have:(x == p.1)=true:=by rw[hp];simp
   rw[this] at hs
   simp[Instr.findAsking,hs,Result.andThen,h2]
  ·have:(x == p.1)=false:=beq_eq_false_iff_ne.2 fun e=>hp e.symm
   rw[this] at hs
   have hF:(Instr.findAsking 47 (keyV x) (e::l) i).run Tryz.prog w=(Instr.findAsking 47 (keyV x) l (i+1)).run Tryz.prog w:=by
    conv=>lhs;unfold Instr.findAsking
    simp[hs,Result.andThen]
   rw[hF]
   rcases zjj w x hx l K (i+1) h3 (fun q hq=>hw q (by simp[hq])) with ⟨h4,h5⟩ | ⟨j,hj,h4,h6,h5⟩
   ·exact Or.inl ⟨by simp only[List.map_cons,List.mem_cons,not_or];exact ⟨fun e=>hp e.symm,h4⟩,h5⟩
   ·refine Or.inr ⟨j+1,by simp;omega,by simpa using h4,fun q hq => ?_,by rw[h5];simp;omega⟩
    cases q with
    | zero=>exact hp
    | succ q=>simpa using h6 q (by omega)
theorem zjk (w:World) (x:List UInt8) (hx:x.length=32) (A:Array MapEntry) (K:List (List UInt8 × Value)) (h:A.toList.map (fun e=>(e.key,e.val))=K.map (fun p=>(keyV p.1,p.2))) (hw:∀ p∈K,p.1.length=32) :
  (x∉K.map (·.1)∧(Instr.findKey 47 (keyV x) A.toList).run Tryz.prog w = .ok none w) ∨
   ∃ (j:Nat) (hj:j<K.length),K[j].1=x∧(∀ q (hq:q<j),(K[q]'(by omega)).1≠x)∧(Instr.findKey 47 (keyV x) A.toList).run Tryz.prog w = .ok (some (j,K[j].2)) w:=by
 have hfk:(Instr.findKey 47 (keyV x) A.toList).run Tryz.prog w=(Instr.findAsking 47 (keyV x) A.toList 0).run Tryz.prog w:=by
  unfold Instr.findKey
  simp only[Sem.run_bind,run_underlying Tryz.underlying47,Result.andThen_ok]
  cases hl:A.toList with
  | nil=>simp[Instr.findNow,Instr.findAsking]
  | cons e l =>
   have:Instr.findNow (.array 32 5) (keyV x) (e::l) 0=none:=by
    simp[Instr.findNow,Instr.sameNow]
   rw[this]
 rw[hfk]
 rcases zjj w x hx A.toList K 0 h hw with h1 | ⟨j,hj,h1,h2,h3⟩
 ·exact Or.inl h1
 ·exact Or.inr ⟨j,hj,h1,h2,by rw[h3,Nat.zero_add]⟩
theorem zpr {K:List (List UInt8 × Value)} {x:List UInt8} {j:Nat} (hj:j<K.length) (h1:K[j].1=x) (h2:∀ q (hq:q<j),(K[q]'(by omega)).1≠x):getK K x=some K[j].2:=by
 unfold getK
 rw[List.find?_eq_some_iff_getElem.2 ⟨by simpa using h1,j,hj,rfl,fun q hq=>by simpa using h2 q hq⟩]
 rfl
theorem MapAt.look {w:World} {m:Nat} {K:List (List UInt8 × Value)} (h:MapAt w m K) (t e:TypeId) (ht:Tryz.prog.underlying t=some (.map 47 e)) (z:Value) (hz:(zeroValue e).run Tryz.prog w = .ok z w) (x:List UInt8) (hx:x.length=32) (ok:Bool) :
  (Instr.lookup t (.map (some m)) (keyV x) ok).run Tryz.prog w = .ok (if ok then .tuple #[(getK K x).getD z,.bool (getK K x).isSome] else (getK K x).getD z) w:=by
 obtain ⟨A,c,h1,h2,_⟩:=h.is
 have hc:=zhs w A.isEmpty x hx
 have hg:=MapKept.run_getObj_map (P:=Tryz.prog) h1
 rcases zjk w x hx A K h2 h.wide with ⟨h4,h5⟩ | ⟨j,hj,h4,h6,h5⟩
 ·rw[zht h4]
  simp[Instr.lookup,run_underlying ht,hg,hc,h5,hz,Result.andThen]
 ·rw[zpr hj h4 h6]
  simp[Instr.lookup,run_underlying ht,hg,hc,h5,Result.andThen]
theorem zdr {A:Array MapEntry} (j:Nat) (f:MapEntry→MapEntry):(A.modify j f).toList=A.toList.modify j f:=by simp
theorem MapAt.store {w:World} {m:Nat} {K:List (List UInt8 × Value)} (h:MapAt w m K) (t e:TypeId) (ht:Tryz.prog.underlying t=some (.map 47 e)) (x:List UInt8) (hx:x.length=32) (v:Value) :
  ∃ w',(Instr.mapUpdate t (.map (some m)) (keyV x) v).run Tryz.prog w = .ok () w'∧MapAt w' m (putK K x v)∧w.grownBy w' (some m)∧w'.heap.size=w.heap.size:=by
 have hlt:=h.lt
 obtain ⟨A,c,h1,h2,hb,hnd⟩:=h.is
 have hc:=zhs w false x hx
 have hg:=MapKept.run_getObj_map (P:=Tryz.prog) h1
 have hgr:∀ o:Obj,w.grownBy { w with heap:=w.heap.setIfInBounds m o } (some m):=fun o=>⟨rfl,rfl,rfl,by simp,fun i _ hi=>by
  have:m≠i:=fun e=>hi (by rw[e])
  simp[this]⟩
 have hsame:∀ o:Obj,({ w with heap:=w.heap.setIfInBounds m o } : World).heap[m]? = some o:=fun o=>by simp[hlt]
 rcases zjk w x hx A K h2 h.wide with ⟨h4,h5⟩ | ⟨j,hj,h4,h6,h5⟩
 ·refine ⟨{ w with heap:=w.heap.setIfInBounds m (.map (A.push { key:=keyV x,val:=v,born:=c }) (c+1)) },?_,⟨⟨_,_,hsame _,?_,?_,?_⟩,?_,?_⟩,hgr _,by simp⟩
  ·simp[Instr.mapUpdate,run_underlying ht,hg,hc,h5,Result.andThen,MapKept.run_setObj_map _ h1]
  ·unfold putK;rw[if_neg h4];simp[h2]
  ·intro y hy
   simp only[Array.toList_push,List.mem_append,List.mem_singleton] at hy
   rcases hy with hy | rfl
   ·exact Nat.lt_succ_of_lt (hb y hy)
   ·exact Nat.lt_succ_self _
  ·simp only[Array.toList_push,List.map_append,List.map_cons,List.map_nil]
   refine List.nodup_append.2 ⟨hnd,by simp,?_⟩
   intro a ha b hb2
   simp only[List.mem_singleton] at hb2
   subst hb2
   obtain ⟨y,hy,rfl⟩:=List.mem_map.1 ha
   exact Nat.ne_of_lt (hb y hy)
  ·unfold putK;rw[if_neg h4]
   rw[List.map_append]
   refine List.nodup_append.2 ⟨h.once,by simp,?_⟩
   intro a ha b hb2
   simp only[List.map_cons,List.map_nil,List.mem_singleton] at hb2
   subst hb2
   exact fun e=>h4 (e ▸ ha)
  ·unfold putK;rw[if_neg h4]
   intro p hp
   rcases List.mem_append.1 hp with hp | hp
   ·exact h.wide p hp
   ·rw[List.mem_singleton.1 hp];exact hx
 ·have hmem:x∈K.map (·.1):=List.mem_map.2 ⟨K[j],List.getElem_mem _,h4⟩
  have hlen:A.toList.length=K.length:=by have:=congrArg List.length h2;simpa using this
  have hjA:j<A.toList.length:=by omega
  have hkey:A.toList[j].key=keyV x:=by
   have h7:(A.toList.map (fun e=>(e.key,e.val)))[j]? = (K.map (fun p=>(keyV p.1,p.2)))[j]? := by rw[h2]
   rw[List.getElem?_map,List.getElem?_map,List.getElem?_eq_getElem hjA,List.getElem?_eq_getElem hj] at h7
   simp only[Option.map_some,Option.some.injEq,Prod.mk.injEq] at h7
   rw[h7.1,h4]
  have hst:(Instr.keyThatStays (keyV x) (keyV x)).run Tryz.prog w = .ok (keyV x) w:=by
   unfold Instr.keyThatStays
   rw[if_pos (zoa x)];rfl
  have hjB:j<A.size:=by simpa using hjA
  have hkey2:A[j].key=keyV x:=by simpa using hkey
  have hjo:A[j]? = some A[j]:=by simp[hjB]
  have hjo2:A[j]? = some A.toList[j]:=by
   rw[← Array.getElem?_toList,List.getElem?_eq_getElem hjA]
  have hput:putK K x v=K.modify j fun _=>(x,v):=by
   unfold putK;rw[if_pos hmem]
   apply List.ext_getElem?
   intro i
   rw[List.getElem?_map,List.getElem?_modify]
   by_cases hij:j=i
   ·subst hij
    rw[List.getElem?_eq_getElem hj]
    simp[h4]
   ·simp only[if_neg hij]
    cases hi:K[i]? with
    | none=>rfl
    | some p =>
     obtain ⟨hi2,rfl⟩:=List.getElem?_eq_some_iff.1 hi
     have:K[i].1≠x:=fun e=>hij (by
      have h8:(K.map (·.1))[j]'(by simpa using hj)=(K.map (·.1))[i]'(by simpa using hi2):=by simp[h4,e]
      exact (List.getElem_inj h.once).1 h8)
     simp[this]
  refine ⟨{ w with heap:=w.heap.setIfInBounds m (.map (A.modify j fun e=>{ e with key:=keyV x,val:=v }) c) },?_,⟨⟨_,_,hsame _,?_,?_,?_⟩,?_,?_⟩,hgr _,by simp⟩
  ·simp[Instr.mapUpdate,run_underlying ht,hg,hc,h5,Result.andThen,MapKept.run_setObj_map _ h1,hjo,hkey2,hst]
  ·rw[hput,zdr]
   apply List.ext_getElem?
   intro i
   rw[List.getElem?_map,List.getElem?_map,List.getElem?_modify,List.getElem?_modify]
   have h7:(A.toList.map (fun e=>(e.key,e.val)))[i]? = (K.map (fun p=>(keyV p.1,p.2)))[i]? := by rw[h2]
   rw[List.getElem?_map,List.getElem?_map] at h7
   by_cases hij:j=i
   ·subst hij
    rw[List.getElem?_eq_getElem hjA,List.getElem?_eq_getElem hj]
    simp
   ·simp only[if_neg hij]
    simpa using h7
  ·intro y hy
   rw[zdr] at hy
   obtain ⟨i,hi⟩:=List.mem_iff_getElem?.1 hy
   rw[List.getElem?_modify] at hi
   obtain ⟨z,hz,rfl⟩:=Option.map_eq_some_iff.1 hi
   have:=hb z (List.mem_of_getElem? hz)
   split <;> exact this
  ·have:(A.modify j fun e=>{ e with key:=keyV x,val:=v }).toList.map (·.born)=A.toList.map (·.born):=by
    rw[zdr]
    apply List.ext_getElem?
    intro i
    rw[List.getElem?_map,List.getElem?_map,List.getElem?_modify]
    cases A.toList[i]? with
    | none=>rfl
    | some z=>simp only[Option.map_some];split <;> rfl
   rw[this];exact hnd
  ·have:(putK K x v).map (·.1)=K.map (·.1):=by
    unfold putK;rw[if_pos hmem,List.map_map]
    apply List.map_congr_left
    intro p _
    simp only[Function.comp]
    split
    ·rename_i e;exact e.symm
    ·rfl
   rw[this];exact h.once
  ·intro p hp
   unfold putK at hp;rw[if_pos hmem] at hp
   obtain ⟨q,hq,rfl⟩:=List.mem_map.1 hp
   split
   ·exact hx
   ·exact h.wide q hq
theorem ze0 {K:List (List UInt8 × Value)} (x:List UInt8) (v:Value) (p:List UInt8 × Value):p∈putK K x v↔p=(x,v)∨(p∈K∧p.1≠x):=by
 unfold putK
 split
 ·rename_i hm
  rw[List.mem_map]
  constructor
  ·rintro ⟨q,hq,rfl⟩
   split
   ·exact Or.inl rfl
   ·rename_i h;exact Or.inr ⟨hq,h⟩
  ·rintro (rfl | ⟨h1,h2⟩)
   ·obtain ⟨q,hq,h⟩:=List.mem_map.1 hm
    exact ⟨q,hq,if_pos h⟩
   ·exact ⟨p,h1,if_neg h2⟩
 ·rename_i hm
  rw[List.mem_append,List.mem_singleton]
  constructor
  ·rintro (h | h)
   ·exact Or.inr ⟨h,fun e=>hm (e ▸ List.mem_map.2 ⟨p,h,rfl⟩)⟩
   ·exact Or.inl h
  ·rintro (h | ⟨h,_⟩)
   ·exact Or.inr h
   ·exact Or.inl h
end Go.Proofs.YtegbbkgmiklhcaaGreatDoor

/- Lemmas. -/
namespace Go.Proofs.YtegbbkgmiklhcaaGreatDoor
open Go.RowKit Go.Lib Go.Sort
set_option maxRecDepth 100000
theorem zjl:∀ a b:List UInt8,decide (compareBytes a b<0)=za5 a b
 | [],[]=>rfl
 | [],_::_=>rfl
 | _::_,[]=>rfl
 | x::a,y::b=>by
  rw[zcn,← zjl a b]
  show decide ((if x<y then -1 else if y<x then 1 else compareBytes a b)<0)=_
  by_cases h1:x<y
  ·simp[h1]
  ·by_cases h2:y<x
   ·have:(x == y)=false:=by
     rw[beq_eq_false_iff_ne]
     rintro rfl
     exact UInt8.lt_irrefl _ h2
    simp[h1,h2,this]
   ·have:x=y:=UInt8.le_antisymm (UInt8.not_lt.1 h2) (UInt8.not_lt.1 h1)
    subst this
    simp[h1]
theorem zps (W:World) (bA bB:Nat) (a b:List UInt8) (ha:a.length=32) (hb:b.length=32) (hA:W.rangeAt bA 0 (a.map bv)) (hB:W.rangeAt bB 0 (b.map bv)) :
  (Extern.BytealgCompare.compare #[.slice (some ⟨bA,0,none⟩) 32 32,.slice (some ⟨bB,0,none⟩) 32 32]).run Tryz.prog W = .ok (.int .i64 (compareBytes a b)) W:=by
 have hl:∀ (blk:Nat) (l:List UInt8),l.length=32→W.rangeAt blk 0 (l.map bv)→(Extern.Bytes.bytesOf (.slice (some ⟨blk,0,none⟩) 32 32)).run Tryz.prog W = .ok ⟨l.toArray⟩ W:=by
  intro blk l hl hr
  have:=run_loadBytesX (P:=Tryz.prog) W (l.map fun x=>(x.toNat:Int)) ⟨blk,0,none⟩ .empty (fun j x hx=>by
   obtain ⟨hj,rfl⟩:=List.getElem?_eq_some_iff.1 hx
   have hj' : j<l.length:=by simpa using hj
   rw[Addr.add_mid]
   have:=hr j (bv l[j]) (by simp[hj'])
   simpa[bv] using this)
  rw[List.length_map,hl] at this
  show (Extern.Bytes.loadBytes _ 32 _).run _ _=_
  rw[this]
  have e:Lib.bytesOf (l.map fun x=>(x.toNat:Int))=l:=by
   unfold Lib.bytesOf
   rw[List.map_map]
   conv=>rhs;rw[← List.map_id l]
   apply List.map_congr_left
   intro x _
   simp
  rw[e]
  simp
 change Sem.run Tryz.prog (do pure (goInt (Extern.BytealgCompare.cmp (← Extern.Bytes.bytesOf (.slice (some ⟨bA,0,none⟩) 32 32)) (← Extern.Bytes.bytesOf (.slice (some ⟨bB,0,none⟩) 32 32))))) W=_
 simp only[Sem.run_bind,hl bA a ha hA,hl bB b hb hB,Sem.run_pure,Result.andThen]
 rw[cmp_eq]
 rfl
theorem zoc (W:World) (bA bB:Nat) (a b:List UInt8) (ha:a.length=32) (hb:b.length=32) (hA:W.rangeAt bA 0 (a.map bv)) (hB:W.rangeAt bB 0 (b.map bv)) :
  Calls Tryz.prog 102 #[.slice (some ⟨bA,0,none⟩) 32 32,.slice (some ⟨bB,0,none⟩) 32 32] W fun e w'=>e = .returned (.int .i64 (compareBytes a b))∧w'=W:=by
 have h8 := @run_callFunc_extern Tryz.prog 129 _ Extern.BytealgCompare.compare Tryz.func129 (by kernel_rfl) (by kernel_rfl) (by kernel_rfl) (by kernel_rfl)
 have h9:=zps W bA bB a b ha hb hA hB
 obtain ⟨y,hy⟩:∃ y,y=compareBytes a b:=⟨_,rfl⟩
 rw[← hy] at h9 ⊢
 clear hy hA hB ha hb
 go_enter Tryz.func102,Tryz.ntmps102
 go_wp2
 go_ret
 exact ⟨rfl,rfl⟩
theorem ziu (W:World) (a b:List UInt8) (ha:a.length=32) (hb:b.length=32) :
  Calls Tryz.prog 69 #[keyV a,keyV b] W fun e w'=>e = .returned (.int .i64 (compareBytes a b))∧∃ q os,w'=grow (W.drewN q) os:=by
 obtain ⟨AB,hAB⟩:∃ l,l=a.map bv:=⟨_,rfl⟩
 obtain ⟨BB,hBB⟩:∃ l,l=b.map bv:=⟨_,rfl⟩
 obtain ⟨y,hy⟩:∃ y,y=compareBytes a b:=⟨_,rfl⟩
 obtain ⟨W1,hW1,hB1,g1⟩:=zah W 47 AB
 obtain ⟨W2,hW2,hB2,g2⟩:=zah W1 47 BB
 have hs1:W1.heap.size=W.heap.size+1:=by rw[hW1];simp
 rw[hs1] at hB2
 obtain ⟨WD,hWD⟩:∃ V,V=W2.drew:=⟨_,rfl⟩
 have hfin:∃ q os,WD=grow (W.drewN q) os:=⟨1,#[.cells AB.toArray 47,.cells BB.toArray 47],by
  rw[hWD,hW2,hW1,alloc_eq_grow,alloc_eq_grow,grow_grow];rfl⟩
 have hc:=zoc WD W.heap.size (W.heap.size+1) a b ha hb (by rw[hWD,← hAB];exact zal (hB1.kept g2 (by simp)).drew) (by rw[hWD,← hBB];exact zal hB2.drew)
 rw[← hy] at hc
 have hW:W2=(W.alloc (.cells AB.toArray 47)).alloc (.cells BB.toArray 47):=by rw[hW2,hW1]
 rw[show keyV a = .agg AB.toArray by rw[hAB];rfl,show keyV b = .agg BB.toArray by rw[hBB];rfl,← hy]
 obtain ⟨HW,HC,HF⟩:=zh3 hW hc hfin
 clear hW hW1 hW2 hB1 hB2 g1 g2 hs1 hAB hBB hy hc hfin ha hb
 go_enter Tryz.func69,Tryz.ntmps69
 go_upto_region 1 with (rw[← uh HW])
 refine wp_region_noPanic ?_
 refine wp_region_held_drew (S:=fun V=>V=WD) (by kernel_rfl) hWD.symm (fun _ => ?_)
 rw[← hWD]
 clear hWD
 refine tz 0 5 (.slice 47 (.tmp 2) none none none) (.slice (some ⟨W.heap.size,0,none⟩) 32 32) rfl ?_ (y:=(Or.inl ⟨by rfl,fun V hV=>by (subst hV;have z9:=zcb W.heap.size 0;go_simp)⟩))
 refine tz 1 6 (.slice 47 (.tmp 3) none none none) (.slice (some ⟨W.heap.size+1,0,none⟩) 32 32) rfl ?_ (y:=(Or.inl ⟨by rfl,fun V hV=>by (subst hV;have z9:=zcb (W.heap.size+1) 0;go_simp)⟩))
 (try simp only[pq])
 refine rdq 2 (some 7) (.call { callee := .value (.func 102),args := #[(.tmp 5),(.tmp 6)],argTypes := #[24,24] }) (fun K9 hK9 => ?_)
 go_simp
 go_at_call 102
 refine (uh HC).mono ?_
 rintro e w2 ⟨rfl,e2⟩
 subst w2
 go_wp2_with fail
 refine hK9.out _ _ rfl (fun _ => ?_)
 clear hK9 K9
 refine tq 3 4 (.assign (.tmp 7)) (.int .i64 y) rfl ?_
 (try simp only[pq])
 refine wpAnyH_done (by kernel_rfl) ?_ _
 refine NoPanic.normal ?_
 go_wp2
 go_ret
 exact ⟨rfl,uh HF⟩
theorem zfu (W:World) (q:Nat) (os:Array Obj):W.grownBy (grow (W.drewN q) os) none :=
 ⟨rfl,rfl,rfl,by simp[grow,World.drewN],fun i hi _=>by
  have:i<(W.drewN q).heap.size:=hi
  simp only[grow]
  rw[Array.getElem?_append_left this]
  rfl⟩
theorem zhu (w:World) (a b:List UInt8) (ha:a.length=32) (hb:b.length=32) :
  Calls Tryz.prog 43 #[keyV a,keyV b] w fun e w'=>e = .returned (.bool (za5 a b))∧∃ q os,w'=grow (w.drewN q) os:=by
 obtain ⟨AB,hAB⟩:∃ l,l=a.map bv:=⟨_,rfl⟩
 obtain ⟨BB,hBB⟩:∃ l,l=b.map bv:=⟨_,rfl⟩
 have hAl:AB.length=32:=by rw[hAB];simp[ha]
 have hBl:BB.length=32:=by rw[hBB];simp[hb]
 obtain ⟨W1,hW1,hB1,g1⟩:=zah w 47 AB
 obtain ⟨W2,hW2,hB2,g2⟩:=zah W1 47 BB
 have hs1:W1.heap.size=w.heap.size+1:=by rw[hW1];simp
 rw[hs1] at hB2
 have hc:=ziu W2 a b ha hb
 rw[← zjl]
 obtain ⟨y,hy⟩:∃ y,y=compareBytes a b:=⟨_,rfl⟩
 rw[← hy] at hc ⊢
 have hra:=zal (hB1.kept g2 (by simp))
 have hrb:=zal hB2
 have hiA:(Tryz.prog.info? 47).map (·.size)=some AB.length:=by rw[hAl];exact zax
 have hiB:(Tryz.prog.info? 47).map (·.size)=some BB.length:=by rw[hBl];exact zax
 have hW:W2=(w.alloc (.cells AB.toArray 47)).alloc (.cells BB.toArray 47):=by rw[hW2,hW1]
 rw[show keyV a = .agg AB.toArray by rw[hAB];rfl,show keyV b = .agg BB.toArray by rw[hBB];rfl] at hc ⊢
 obtain ⟨HW,HIA,HIB⟩:=zh3 hW hiA hiB
 have hgr:∀ q os,∃ q' os',grow (W2.drewN q) os=grow (w.drewN q') os':=fun q os=>⟨q,#[.cells AB.toArray 47,.cells BB.toArray 47]++os,by
  rw[hW,alloc_eq_grow,alloc_eq_grow,grow_grow]
  show grow (grow (w.drewN q) _) os=_
  rw[grow_grow];rfl⟩
 have HG:=hide hgr
 clear hgr hW hW1 hW2 hB1 hB2 g1 g2 hs1 hAB hBB hy ha hb hAl hBl hiA hiB
 go_enter Tryz.func43,Tryz.ntmps43
 go_wp2_with (first
  | (rw[← uh HW];refine wpList_load_mid rfl 47 _ rfl w.heap.size 0 rfl AB _ hra Tryz.underlying47 rfl (uh HIA) ?_;clear hra)
  | (refine wpList_load_mid rfl 47 _ rfl (w.heap.size+1) 0 rfl BB _ hrb Tryz.underlying47 rfl (uh HIB) ?_;clear hrb)
  | (go_at_call 69;refine hc.mono ?_;rintro e w3 ⟨rfl,q,os,e3⟩;clear hc;have g3:=hide (e3.trans (uh HG q os).choose_spec.choose_spec);clear e3))
 go_ret
 exact ⟨rfl,_,_,uh g3⟩
theorem zml (w:World) (a b:List UInt8) (ha:a.length=32) (hb:b.length=32) :
  Calls Tryz.prog 43 #[keyV a,keyV b] w fun e w'=>e = .returned (.bool (za5 a b))∧w.grownBy w' none:=by
 refine (zhu w a b ha hb).mono ?_
 rintro e w' ⟨rfl,q,os,rfl⟩
 exact ⟨rfl,zfu w q os⟩
abbrev Nm:={ l:List UInt8 // l.length=32 }
instance:Inhabited Nm:=⟨⟨List.replicate 32 0,by simp⟩⟩
def encN (x:Nm):List Value:=x.1.map bv
theorem zci (x:Nm):(encN x).length=32:=by simp[encN,x.2]
end Go.Proofs.YtegbbkgmiklhcaaGreatDoor
