/- Lemmas. -/
import Derived.Test.YtoilcpdhhlcidaaGreatDoorMStr
import Derived.MapKept
import Derived.Carry
import Derived.Stop.BytesEq
import GoSem.Builtin.Delete
import Derived.Test.YtoilcpdhhlcidaaGreatDoorCtA
namespace Go.Proofs.YtoilcpdhhlcidaaGreatDoor
open Go.RowKit
set_option maxRecDepth 100000
def keyN (x:Nat):Value := .int .i64 (x:Int)
theorem zkn {a b:Nat} (h:keyN a=keyN b):a=b:=by
 unfold keyN at h
 injection h with _ h
 omega
theorem zm5 (a b:Nat):Instr.sameNow (.int .i64) (keyN a) (keyN b)=some (a == b):=by
 unfold keyN
 simp only[Instr.sameNow,if_true]
 congr 1
 by_cases h:a=b
 ·subst h;simp
 ·have:(a:Int)≠b:=by omega
  rw[beq_eq_false_iff_ne.2 h,beq_eq_false_iff_ne.2 this]
theorem zew (w:World) (b:Bool) (a:Nat):(Instr.checkKey b 10000 3 (keyN a)).run Tryz.prog w = .ok () w :=
 MapKept.run_checkKey (d := .int .i64) Tryz.underlying3 (by simp[MapKept.IsKey,keyN]) b 9999
structure ImapAt (w:World) (m:Nat) (K:List (Nat × Value)):Prop where
 is:∃ A clock,w.heap[m]? = some (.map A clock)∧A.toList.map (fun e=>(e.key,e.val))=K.map (fun p=>(keyN p.1,p.2))∧(∀ e∈A.toList,e.born<clock)∧(A.toList.map (·.born)).Nodup
 once:(K.map (·.1)).Nodup
theorem ImapAt.lt {w:World} {m:Nat} {K:List (Nat × Value)} (h:ImapAt w m K):m<w.heap.size:=by
 obtain ⟨_,_,h,_⟩:=h.is
 exact (Array.getElem?_eq_some_iff.1 h).1
theorem ImapAt.same {w a:World} {m:Nat} {K:List (Nat × Value)} (h:ImapAt w m K) (g:a.heap[m]? = w.heap[m]?):ImapAt a m K:=by
 obtain ⟨A,c,h1,h2⟩:=h.is
 exact ⟨⟨A,c,by rw[g];exact h1,h2⟩,h.once⟩
theorem ImapAt.kept {w a:World} {m:Nat} {K:List (Nat × Value)} {r:Option Nat} (h:ImapAt w m K) (g:w.grownBy a r) (hr:some m≠r):ImapAt a m K:=h.same (g.block m h.lt hr)
theorem ImapAt.none {w a:World} {m:Nat} {K:List (Nat × Value)} (h:ImapAt w m K) (g:w.grownBy a Option.none):ImapAt a m K:=h.kept g (by simp)
theorem ImapAt.new (w:World):ImapAt (w.alloc (.map #[] 0)) w.heap.size []:=⟨⟨#[],0,heap_alloc_new w _,rfl,by simp,by simp⟩,by simp⟩
theorem ImapAt.blk {w:World} {m b:Nat} {K:List (Nat × Value)} {t:TypeId} {cs:List Value} (h:ImapAt w m K) (hb:Blk w b t cs):m≠b:=by
 rintro rfl
 obtain ⟨_,_,h,_⟩:=h.is
 unfold Blk at hb
 rw[hb] at h
 cases h
theorem ImapAt.typ {w:World} {m:Nat} {K:List (Nat × Value)} (h:ImapAt w m K):¬ Typ w m:=by
 rintro ⟨_,_,h2⟩
 obtain ⟨_,_,h,_⟩:=h.is
 rw[h2] at h
 cases h
theorem ImapAt.own {w:World} {m base k n:Nat} {K:List (Nat × Value)} {t:TypeId} {v:Value} {xs:List Value} (h:ImapAt w m K) (ho:w.ownsRow base t k v n xs):some m≠v.ownBlock:=by
 obtain ⟨_,_,h,_⟩:=h.is
 rcases ho.2 with ⟨rfl,_⟩ | ⟨g,cap,cur,rfl,_,hh,_⟩
 ·intro e;cases e
 ·intro e
  have:m=g:=by simpa[Value.ownBlock] using e
  subst this
  rw[hh] at h
  cases h
def getI (K:List (Nat × Value)) (x:Nat):Option Value:=(K.find? fun p=>p.1 == x).map (·.2)
def putI (K:List (Nat × Value)) (x:Nat) (v:Value):List (Nat × Value):=if x∈K.map (·.1) then K.map fun p=>if p.1=x then (x,v) else p else K++[(x,v)]
def delI (K:List (Nat × Value)) (x:Nat):List (Nat × Value):=K.filter fun p=>p.1 != x
theorem zc2 (K:List (Nat × Value)) (x:Nat):(getI K x).isSome=true↔x∈K.map (·.1):=by
 unfold getI
 rw[Option.isSome_map,List.find?_isSome]
 constructor
 ·rintro ⟨p,hp,h⟩
  exact List.mem_map.2 ⟨p,hp,by simpa using h⟩
 ·intro h
  obtain ⟨p,hp,rfl⟩:=List.mem_map.1 h
  exact ⟨p,hp,by simp⟩
theorem ziv {K:List (Nat × Value)} {x:Nat} (h:x∉K.map (·.1)):getI K x=none:=by
 cases hg:getI K x with
 | none=>rfl
 | some v=>exact absurd ((zc2 K x).1 (by rw[hg];rfl)) h
theorem zeg {K:List (Nat × Value)} {x:Nat} {v:Value} (h:getI K x=some v):(x,v)∈K:=by
 unfold getI at h
 obtain ⟨p,hp,rfl⟩:=Option.map_eq_some_iff.1 h
 have h1:=List.mem_of_find?_eq_some hp
 have h2:p.1=x:=by simpa using List.find?_some hp
 obtain ⟨a,b⟩:=p
 simp only at h2
 subst h2
 exact h1
theorem zc3 {α β:Type} {f:α→β} : ∀ {K:List α},(K.map f).Nodup→∀ {a b:α},a∈K→b∈K→f a=f b→a=b
 | [],_,_,_,h,_,_=>by simp at h
 | x::K,hn,a,b,ha,hb,h=>by
   have hc:=List.nodup_cons.1 hn
   rcases List.mem_cons.1 ha with h1 | h1
   ·rcases List.mem_cons.1 hb with h2 | h2
    ·rw[h1,h2]
    ·exact absurd (by rw[← h1,h];exact List.mem_map.2 ⟨b,h2,rfl⟩) hc.1
   ·rcases List.mem_cons.1 hb with h2 | h2
    ·exact absurd (by rw[← h2,← h];exact List.mem_map.2 ⟨a,h1,rfl⟩) hc.1
    ·exact zc3 hc.2 h1 h2 h
theorem zm6 {K:List (Nat × Value)} (hn:(K.map (·.1)).Nodup) {x:Nat} {v:Value} (h:(x,v)∈K):getI K x=some v:=by
 cases hg:getI K x with
 | none=>exact absurd (List.mem_map.2 ⟨_,h,rfl⟩) (fun hm=>by have:=(zc2 K x).2 hm;rw[hg] at this;cases this)
 | some u =>
   have h1:=zeg hg
   have h2:=zc3 hn h1 h rfl
   injection h2 with _ h2
   rw[h2]
theorem zko (x:Nat):∀ (l:List MapEntry) (K:List (Nat × Value)) (i:Nat),l.map (fun e=>(e.key,e.val))=K.map (fun p=>(keyN p.1,p.2)) →
  (x∉K.map (·.1)∧Instr.findNow (.int .i64) (keyN x) l i=some none) ∨
   ∃ (j:Nat) (hj:j<K.length),K[j].1=x∧(∀ q (hq:q<j),(K[q]'(by omega)).1≠x)∧Instr.findNow (.int .i64) (keyN x) l i=some (some (i+j,K[j].2))
 | [],[],_,_=>Or.inl ⟨by simp,rfl⟩
 | [],_::_,_,h=>by simp at h
 | _::_,[],_,h=>by simp at h
 | e::l,p::K,i,h=>by
   simp only[List.map_cons,List.cons.injEq,Prod.mk.injEq] at h
   obtain ⟨⟨h1,h2⟩,h3⟩:=h
   have hs:Instr.sameNow (.int .i64) (keyN x) e.key=some (x == p.1):=by rw[h1];exact zm5 x p.1
   by_cases hp:p.1=x
   ·refine Or.inr ⟨0,by simp,hp,fun q hq=>by omega,?_⟩
    unfold Instr.findNow
    rw[hs,hp,beq_self_eq_true,h2];rfl
   ·have hb:(x == p.1)=false:=beq_eq_false_iff_ne.2 fun e=>hp e.symm
    have hF:Instr.findNow (.int .i64) (keyN x) (e::l) i=Instr.findNow (.int .i64) (keyN x) l (i+1):=by
     conv=>lhs;unfold Instr.findNow
     rw[hs,hb]
    rw[hF]
    rcases zko x l K (i+1) h3 with ⟨h4,h5⟩ | ⟨j,hj,h4,h6,h5⟩
    ·exact Or.inl ⟨by simp only[List.map_cons,List.mem_cons,not_or];exact ⟨fun e=>hp e.symm,h4⟩,h5⟩
    ·refine Or.inr ⟨j+1,by simp;omega,by simpa using h4,fun q hq => ?_,by rw[h5];simp;omega⟩
     cases q with
     | zero=>exact hp
     | succ q=>simpa using h6 q (by omega)
theorem zf4 (w:World) (x:Nat) (A:Array MapEntry) (K:List (Nat × Value)) (h:A.toList.map (fun e=>(e.key,e.val))=K.map (fun p=>(keyN p.1,p.2))) :
  (x∉K.map (·.1)∧(Instr.findKey 3 (keyN x) A.toList).run Tryz.prog w = .ok none w) ∨
   ∃ (j:Nat) (hj:j<K.length),K[j].1=x∧(∀ q (hq:q<j),(K[q]'(by omega)).1≠x)∧(Instr.findKey 3 (keyN x) A.toList).run Tryz.prog w = .ok (some (j,K[j].2)) w:=by
 rcases zko x A.toList K 0 h with ⟨h1,h2⟩ | ⟨j,hj,h1,h2,h3⟩
 ·exact Or.inl ⟨h1,MapKept.run_findKey Tryz.underlying3 h2⟩
 ·exact Or.inr ⟨j,hj,h1,h2,MapKept.run_findKey Tryz.underlying3 (by rw[h3,Nat.zero_add])⟩
theorem zq1 {K:List (Nat × Value)} {x:Nat} {j:Nat} (hj:j<K.length) (h1:K[j].1=x) (h2:∀ q (hq:q<j),(K[q]'(by omega)).1≠x):getI K x=some K[j].2:=by
 unfold getI
 rw[List.find?_eq_some_iff_getElem.2 ⟨by simpa using h1,j,hj,rfl,fun q hq=>by simpa using h2 q hq⟩]
 rfl
theorem ImapAt.look {w:World} {m:Nat} {K:List (Nat × Value)} (h:ImapAt w m K) (t e:TypeId) (ht:Tryz.prog.underlying t=some (.map 3 e)) (z:Value) (hz:(zeroValue e).run Tryz.prog w = .ok z w) (x:Nat) (ok:Bool) :
  (Instr.lookup t (.map (some m)) (keyN x) ok).run Tryz.prog w = .ok (if ok then .tuple #[(getI K x).getD z,.bool (getI K x).isSome] else (getI K x).getD z) w:=by
 obtain ⟨A,c,h1,h2,_⟩:=h.is
 have hc:=zew w A.isEmpty x
 have hg:=MapKept.run_getObj_map (P:=Tryz.prog) h1
 rcases zf4 w x A K h2 with ⟨h4,h5⟩ | ⟨j,hj,h4,h6,h5⟩
 ·rw[ziv h4]
  simp[Instr.lookup,run_underlying ht,hg,hc,h5,hz,Result.andThen]
 ·rw[zq1 hj h4 h6]
  simp[Instr.lookup,run_underlying ht,hg,hc,h5,Result.andThen]
theorem zdd {A:Array MapEntry} (j:Nat) (f:MapEntry→MapEntry):(A.modify j f).toList=A.toList.modify j f:=by simp
theorem ImapAt.store {w:World} {m:Nat} {K:List (Nat × Value)} (h:ImapAt w m K) (t e:TypeId) (ht:Tryz.prog.underlying t=some (.map 3 e)) (x:Nat) (v:Value) :
  ∃ w',(Instr.mapUpdate t (.map (some m)) (keyN x) v).run Tryz.prog w = .ok () w'∧ImapAt w' m (putI K x v)∧w.grownBy w' (some m)∧w'.heap.size=w.heap.size:=by
 have hlt:=h.lt
 obtain ⟨A,c,h1,h2,hb,hnd⟩:=h.is
 have hc:=zew w false x
 have hg:=MapKept.run_getObj_map (P:=Tryz.prog) h1
 have hgr:∀ o:Obj,w.grownBy { w with heap:=w.heap.setIfInBounds m o } (some m):=fun o=>⟨rfl,rfl,rfl,by simp,fun i _ hi=>by
  have:m≠i:=fun e=>hi (by rw[e])
  simp[this]⟩
 have hsame:∀ o:Obj,({ w with heap:=w.heap.setIfInBounds m o } : World).heap[m]? = some o:=fun o=>by simp[hlt]
 rcases zf4 w x A K h2 with ⟨h4,h5⟩ | ⟨j,hj,h4,h6,h5⟩
 ·refine ⟨{ w with heap:=w.heap.setIfInBounds m (.map (A.push { key:=keyN x,val:=v,born:=c }) (c+1)) },?_,⟨⟨_,_,hsame _,?_,?_,?_⟩,?_⟩,hgr _,by simp⟩
  ·simp[Instr.mapUpdate,run_underlying ht,hg,hc,h5,Result.andThen,MapKept.run_setObj_map _ h1]
  ·unfold putI;rw[if_neg h4];simp[h2]
  ·intro y hy
   simp only[Array.toList_push,List.mem_append,List.mem_singleton] at hy
   rcases hy with hy | rfl
   ·exact Nat.lt_succ_of_lt (hb y hy)
   ·exact Nat.lt_succ_self _
  ·simp only[Array.toList_push,List.map_append,List.map_cons,List.map_nil]
   refine List.nodup_append.2 ⟨hnd,by simp,?_⟩
   intro a ha b hb2
   simp only[List.mem_singleton] at hb2
   subst hb2
   obtain ⟨y,hy,rfl⟩:=List.mem_map.1 ha
   exact Nat.ne_of_lt (hb y hy)
  ·unfold putI;rw[if_neg h4]
   rw[List.map_append]
   refine List.nodup_append.2 ⟨h.once,by simp,?_⟩
   intro a ha b hb2
   simp only[List.map_cons,List.map_nil,List.mem_singleton] at hb2
   subst hb2
   exact fun e=>h4 (e ▸ ha)
 ·have hmem:x∈K.map (·.1):=List.mem_map.2 ⟨K[j],List.getElem_mem _,h4⟩
  have hlen:A.toList.length=K.length:=by have:=congrArg List.length h2;simpa using this
  have hjA:j<A.toList.length:=by omega
  have hkey:A.toList[j].key=keyN x:=by
   have h7:(A.toList.map (fun e=>(e.key,e.val)))[j]? = (K.map (fun p=>(keyN p.1,p.2)))[j]? := by rw[h2]
   rw[List.getElem?_map,List.getElem?_map,List.getElem?_eq_getElem hjA,List.getElem?_eq_getElem hj] at h7
   simp only[Option.map_some,Option.some.injEq,Prod.mk.injEq] at h7
   rw[h7.1,h4]
  have hst:(Instr.keyThatStays (keyN x) (keyN x)).run Tryz.prog w = .ok (keyN x) w:=by
   unfold Instr.keyThatStays
   rw[if_pos (by simp[keyN,Instr.sameBits])];rfl
  have hjB:j<A.size:=by simpa using hjA
  have hkey2:A[j].key=keyN x:=by simpa using hkey
  have hjo:A[j]? = some A[j]:=by simp[hjB]
  have hjo2:A[j]? = some A.toList[j]:=by
   rw[← Array.getElem?_toList,List.getElem?_eq_getElem hjA]
  have hput:putI K x v=K.modify j fun _=>(x,v):=by
   unfold putI;rw[if_pos hmem]
   apply List.ext_getElem?
   intro i
   rw[List.getElem?_map,List.getElem?_modify]
   by_cases hij:j=i
   ·subst hij
    rw[List.getElem?_eq_getElem hj]
    simp[h4]
   ·simp only[if_neg hij]
    cases hi:K[i]? with
    | none=>rfl
    | some p =>
      obtain ⟨hi2,rfl⟩:=List.getElem?_eq_some_iff.1 hi
      have:K[i].1≠x:=fun e=>hij (by
       have h8:(K.map (·.1))[j]'(by simpa using hj)=(K.map (·.1))[i]'(by simpa using hi2):=by simp[h4,e]
       exact (List.getElem_inj h.once).1 h8)
      simp[this]
  refine ⟨{ w with heap:=w.heap.setIfInBounds m (.map (A.modify j fun e=>{ e with key:=keyN x,val:=v }) c) },?_,⟨⟨_,_,hsame _,?_,?_,?_⟩,?_⟩,hgr _,by simp⟩
  ·simp[Instr.mapUpdate,run_underlying ht,hg,hc,h5,Result.andThen,MapKept.run_setObj_map _ h1,hjo,hkey2,hst]
  ·rw[hput,zdd]
   apply List.ext_getElem?
   intro i
   rw[List.getElem?_map,List.getElem?_map,List.getElem?_modify,List.getElem?_modify]
   have h7:(A.toList.map (fun e=>(e.key,e.val)))[i]? = (K.map (fun p=>(keyN p.1,p.2)))[i]? := by rw[h2]
   rw[List.getElem?_map,List.getElem?_map] at h7
   by_cases hij:j=i
   ·subst hij
    rw[List.getElem?_eq_getElem hjA,List.getElem?_eq_getElem hj]
    simp
   ·simp only[if_neg hij]
    simpa using h7
  ·intro y hy
   rw[zdd] at hy
   obtain ⟨i,hi⟩:=List.mem_iff_getElem?.1 hy
   rw[List.getElem?_modify] at hi
   obtain ⟨z,hz,rfl⟩:=Option.map_eq_some_iff.1 hi
   have:=hb z (List.mem_of_getElem? hz)
   split <;> exact this
  ·have:(A.modify j fun e=>{ e with key:=keyN x,val:=v }).toList.map (·.born)=A.toList.map (·.born):=by
    rw[zdd]
    apply List.ext_getElem?
    intro i
    rw[List.getElem?_map,List.getElem?_map,List.getElem?_modify]
    cases A.toList[i]? with
    | none=>rfl
    | some z=>simp only[Option.map_some];split <;> rfl
   rw[this];exact hnd
  ·have:(putI K x v).map (·.1)=K.map (·.1):=by
    unfold putI;rw[if_pos hmem,List.map_map]
    apply List.map_congr_left
    intro p _
    simp only[Function.comp]
    split
    ·rename_i e;exact e.symm
    ·rfl
   rw[this];exact h.once
theorem zex {α β:Type} (f:α→β) (l:List α) (i:Nat):(l.eraseIdx i).map f=(l.map f).eraseIdx i:=by
 rw[List.eraseIdx_eq_take_drop_succ,List.eraseIdx_eq_take_drop_succ,List.map_append,List.map_take,List.map_drop]
theorem za0 {K:List (Nat × Value)} (x:Nat) (v:Value) (p:Nat × Value):p∈putI K x v↔p=(x,v)∨(p∈K∧p.1≠x):=by
 unfold putI
 split
 ·rename_i hm
  rw[List.mem_map]
  constructor
  ·rintro ⟨q,hq,rfl⟩
   split
   ·exact Or.inl rfl
   ·rename_i h;exact Or.inr ⟨hq,h⟩
  ·rintro (rfl | ⟨h1,h2⟩)
   ·obtain ⟨q,hq,h⟩:=List.mem_map.1 hm
    exact ⟨q,hq,if_pos h⟩
   ·exact ⟨p,h1,if_neg h2⟩
 ·rename_i hm
  rw[List.mem_append,List.mem_singleton]
  constructor
  ·rintro (h | h)
   ·exact Or.inr ⟨h,fun e=>hm (e ▸ List.mem_map.2 ⟨p,h,rfl⟩)⟩
   ·exact Or.inl h
  ·rintro (h | ⟨h,_⟩)
   ·exact Or.inr h
   ·exact Or.inl h
theorem zhp {K:List (Nat × Value)} (x:Nat) (p:Nat × Value):p∈delI K x↔p∈K∧p.1≠x:=by simp[delI]
theorem ImapAt.del {w:World} {m:Nat} {K:List (Nat × Value)} (h:ImapAt w m K) (t e u:TypeId) (T:Array TypeId) (hT:T[0]? = some t) (ht:Tryz.prog.underlying t=some (.map 3 e)) (x:Nat) :
  ∃ w',(Builtin.delete_ T u #[.map (some m),keyN x]).run Tryz.prog w = .ok (.tuple #[]) w'∧ImapAt w' m (delI K x)∧w.grownBy w' (some m)∧w'.heap.size=w.heap.size:=by
 have hlt:=h.lt
 obtain ⟨A,c,h1,h2,hb,hnd⟩:=h.is
 have hc:=zew w A.isEmpty x
 have hg:=MapKept.run_getObj_map (P:=Tryz.prog) h1
 have hgr:∀ o:Obj,w.grownBy { w with heap:=w.heap.setIfInBounds m o } (some m):=fun o=>⟨rfl,rfl,rfl,by simp,fun i _ hi=>by
  have:m≠i:=fun e=>hi (by rw[e])
  simp[this]⟩
 have hsame:∀ o:Obj,({ w with heap:=w.heap.setIfInBounds m o } : World).heap[m]? = some o:=fun o=>by simp[hlt]
 have hlen:A.toList.length=K.length:=by have:=congrArg List.length h2;simpa using this
 have honce:((delI K x).map (·.1)).Nodup:=(List.filter_sublist.map _).nodup h.once
 rcases zf4 w x A K h2 with ⟨h4,h5⟩ | ⟨j,hj,h4,h6,h5⟩
 ·have hd:delI K x=K:=by
   unfold delI
   rw[List.filter_eq_self]
   intro p hp
   simp only[bne_iff_ne,ne_eq]
   rintro rfl
   exact h4 (List.mem_map.2 ⟨p,hp,rfl⟩)
  refine ⟨{ w with heap:=w.heap.setIfInBounds m (.map A c) },?_,⟨⟨_,_,hsame _,by rw[hd];exact h2,hb,hnd⟩,honce⟩,hgr _,by simp⟩
  simp[Builtin.delete_,hT,run_underlying ht,hg,hc,h5,Result.andThen,MapKept.run_setObj_map _ h1]
 ·have hjA:j<A.size:=by
   simp only[Array.length_toList] at hlen
   omega
  have hel:(A.eraseIdxIfInBounds j).toList=A.toList.eraseIdx j:=by
   unfold Array.eraseIdxIfInBounds
   rw[dif_pos hjA];simp
  have hd:delI K x=K.eraseIdx j:=by
   unfold delI
   have hsp:K=K.take j++K[j]::K.drop (j+1):=by rw[← List.drop_eq_getElem_cons hj,List.take_append_drop]
   have hn:((K.take j).map (·.1)++K[j].1::(K.drop (j+1)).map (·.1)).Nodup:=by
    have h9:=congrArg (List.map (·.1)) hsp
    rw[List.map_append,List.map_cons] at h9
    rw[← h9];exact h.once
   have hn2:=List.nodup_append.1 hn
   have hn3:=List.nodup_cons.1 hn2.2.1
   rw[List.eraseIdx_eq_take_drop_succ]
   have hf:K.filter (fun p=>p.1 != x)=(K.take j++K[j]::K.drop (j+1)).filter (fun p=>p.1 != x):=congrArg _ hsp
   rw[hf,List.filter_append,List.filter_cons,if_neg (by simp[h4])]
   refine congr (congrArg _ ?_) ?_
   ·rw[List.filter_eq_self]
    intro p hp
    simp only[bne_iff_ne,ne_eq]
    intro e
    exact hn2.2.2 p.1 (List.mem_map.2 ⟨p,hp,rfl⟩) K[j].1 (by simp) (by rw[e,h4])
   ·rw[List.filter_eq_self]
    intro p hp
    simp only[bne_iff_ne,ne_eq]
    intro e
    exact hn3.1 (by rw[h4,← e];exact List.mem_map.2 ⟨p,hp,rfl⟩)
  refine ⟨{ w with heap:=w.heap.setIfInBounds m (.map (A.eraseIdxIfInBounds j) c) },?_,⟨⟨_,_,hsame _,?_,?_,?_⟩,honce⟩,hgr _,by simp⟩
  ·simp[Builtin.delete_,hT,run_underlying ht,hg,hc,h5,Result.andThen,MapKept.run_setObj_map _ h1]
  ·rw[hd,hel,zex,zex,h2]
  ·intro y hy
   rw[hel] at hy
   exact hb y (List.mem_of_mem_eraseIdx hy)
  ·rw[hel,zex]
   exact (List.eraseIdx_sublist _ _).nodup hnd
structure Fr (w a:World) (F:List Nat):Prop where
 os:a.os=w.os
 tape:a.tape=w.tape
 output:a.output=w.output
 size:w.heap.size≤a.heap.size
 block:∀ k,k<w.heap.size→k∉F→a.heap[k]? = w.heap[k]?
theorem Fr.refl (w:World) (F:List Nat):Fr w w F:=⟨rfl,rfl,rfl,Nat.le_refl _,fun _ _ _=>rfl⟩
theorem Fr.trans {w a b:World} {F G:List Nat} (h:Fr w a F) (k:Fr a b G) (hs:∀ x∈G,x∈F∨w.heap.size≤x):Fr w b F :=
 ⟨k.os.trans h.os,k.tape.trans h.tape,k.output.trans h.output,Nat.le_trans h.size k.size,fun i hi hne=>by
  rw[k.block i (Nat.lt_of_lt_of_le hi h.size) (fun hg=>by rcases hs i hg with h1 | h1;exact hne h1;omega),h.block i hi hne]⟩
theorem Fr.more {w a:World} {F G:List Nat} (h:Fr w a F) (hs:∀ x∈F,x∈G∨w.heap.size≤x):Fr w a G:=(Fr.refl w G).trans h hs
theorem Fr.of {w a:World} {r:Option Nat} {F:List Nat} (g:w.grownBy a r) (h:∀ x,r=some x→x∈F∨w.heap.size≤x):Fr w a F :=
 ⟨g.os,g.tape,g.output,g.size,fun k hk hne=>g.block k hk (fun e=>by rcases h k e.symm with h1 | h1;exact hne h1;omega)⟩
theorem Fr.none {w a:World} (g:w.grownBy a Option.none) (F:List Nat):Fr w a F:=Fr.of g (fun _ e=>by cases e)
theorem Fr.then {w a b:World} {F:List Nat} {r:Option Nat} (h:Fr w a F) (g:a.grownBy b r) (hs:∀ x,r=some x→x∈F∨w.heap.size≤x):Fr w b F :=
 h.trans (G:=F++r.toList) (Fr.of g (fun x e=>Or.inl (by simp[e]))) (fun x hx=>by
  rcases List.mem_append.1 hx with h1 | h1
  ·exact Or.inl h1
  ·exact hs x (by simpa using h1))
theorem Fr.below {w a:World} {F:List Nat} {n:Nat} (h:Fr w a F) (hn:n≤w.heap.size) (hF:∀ x∈F,n≤x):Below n w a :=
 ⟨h.os,h.tape,h.output,h.size,fun k hk=>h.block k (Nat.lt_of_lt_of_le hk hn) (fun hf=>by have:=hF k hf;omega)⟩
theorem Fr.gb {w a:World} {F:List Nat} (h:Fr w a F) (hF:∀ x∈F,w.heap.size≤x):w.grownBy a Option.none :=
 ⟨h.os,h.tape,h.output,h.size,fun k hk _=>h.block k hk (fun hf=>by have:=hF k hf;omega)⟩
theorem Fr.blk {w a:World} {F:List Nat} {b:Nat} {t:TypeId} {cs:List Value} (g:Fr w a F) (h:Blk w b t cs) (hb:b∉F):Blk a b t cs:=by
 unfold Blk;rw[g.block b h.lt hb];exact h
theorem Fr.own {w a:World} {F:List Nat} {base k n:Nat} {t:TypeId} {v:Value} {xs:List Value} (g:Fr w a F) (h:w.ownsRow base t k v n xs) (hb:∀ b,v.ownBlock=some b→b∉F):a.ownsRow base t k v n xs:=by
 refine ⟨h.1,?_⟩
 rcases h.2 with h1 | ⟨p,cap,cur,hv,hg,hh,hr⟩
 ·exact Or.inl h1
 ·subst hv
  refine Or.inr ⟨p,cap,cur,rfl,hg,?_,hr⟩
  rw[g.block p (Array.getElem?_eq_some_iff.1 hh).1 (hb p rfl)]
  exact hh
theorem Fr.map {w a:World} {F:List Nat} {m:Nat} {K:List (Nat × Value)} (g:Fr w a F) (h:ImapAt w m K) (hb:m∉F):ImapAt a m K:=h.same (g.block m h.lt hb)
theorem Fr.cell {w a:World} {F:List Nat} (g:Fr w a F) {p:Addr} {v:Value} (h:w.cell? p=some v) (hne:p.block∉F):a.cell? p=some v :=
 (World.cell?_of_block (g.block p.block (World.block_lt_of_cell? w p h) hne)).trans h
theorem Fr.bts {w a:World} {F:List Nat} {ao:Option Addr} {c:Nat} {l:List UInt8} (g:Fr w a F) (h:Bts w ao c l) (hb:∀ ad,ao=some ad→ad.block∉F):Bts a ao c l :=
 ⟨h.zip,h.fits,h.most,h.shape,fun ad e i hi=>g.cell (h.cell ad e i hi) (hb ad e)⟩
def secC (s:List UInt8):List Value:=s.map bv
theorem zbe (s:List UInt8):(secC s).length=s.length:=by simp[secC]
theorem zeh (s:List UInt8):∀ u∈secC s,u.oneCell'=true:=zch s
structure Und (u:Nat) (w:World) (m:Nat) (K:List (Nat × Value)) (U:List (Nat × List UInt8)):Prop where
 map:ImapAt w m K
 keys:∀ i,i∈K.map (·.1)↔i∈U.map (·.1)
 row:∀ p∈K,w.ownsRow u 95 256 p.2 (zay U p.1).length ((zay U p.1).flatMap secC)
 apart:∀ p∈K,∀ q∈K,p.1≠q.1→p.2.ownBlock≠q.2.ownBlock
theorem Und.kept {u:Nat} {w a:World} {m:Nat} {K:List (Nat × Value)} {U:List (Nat × List UInt8)} {r:Option Nat} (h:Und u w m K U) (g:w.grownBy a r) (hm:some m≠r) (hr:∀ p∈K,∀ b,p.2.ownBlock=some b→some b≠r):Und u a m K U :=
 ⟨h.map.kept g hm,h.keys,fun p hp=>(h.row p hp).kept g (by
  cases hb:p.2.ownBlock with
  | none=>exact Or.inl rfl
  | some b=>exact Or.inr (hr p hp b hb)),h.apart⟩
theorem Und.fr {u:Nat} {w a:World} {m:Nat} {K:List (Nat × Value)} {U:List (Nat × List UInt8)} {F:List Nat} (h:Und u w m K U) (g:Fr w a F) (hm:m∉F) (hr:∀ p∈K,∀ b,p.2.ownBlock=some b→b∉F):Und u a m K U :=
 ⟨g.map h.map hm,h.keys,fun p hp=>g.own (h.row p hp) (hr p hp),h.apart⟩
structure DiskM (u:Nat) (w:World) (F:List Nat) (d s c m:Nat) (X:List Value) (ov:Value) (K:List (Nat × Value)) (D:Dsk):Prop where
 blk:Blk w d 77 [.slice (some ⟨s,0,none⟩) D.safe.length c,ov,.map (some m),.int .i64 D.left,.bool D.down]
 sec:Blk w s 95 (D.safe.flatMap secC++X)
 fits:D.safe.length≤c∧c≤maxLen
 ord:w.ownsRow u 3 1 ov D.U.length (D.U.map fun x=>keyN x.1)
 und:Und u w m K D.U
 inD:d∈F
 inS:s∈F
 inM:m∈F
 inO:∀ b,ov.ownBlock=some b→b∈F
 inK:∀ p∈K,∀ b,p.2.ownBlock=some b→b∈F∧b≠s
 low:∀ x∈F,u≤x∧x<w.heap.size
 ok:D.Ok
def za4 (u:Nat) (w:World) (F:List Nat) (d:Nat) (D:Dsk):Prop:=∃ s c m X ov K,DiskM u w F d s c m X ov K D
theorem DiskM.at {u:Nat} {w:World} {F:List Nat} {d s c m:Nat} {X:List Value} {ov:Value} {K:List (Nat × Value)} {D:Dsk} (h:DiskM u w F d s c m X ov K D):za4 u w F d D:=⟨s,c,m,X,ov,K,h⟩
theorem za4.ok {u:Nat} {w:World} {F:List Nat} {d:Nat} {D:Dsk} (h:za4 u w F d D):D.Ok:=by
 obtain ⟨s,c,m,X,ov,K,h⟩:=h
 exact h.ok
theorem za4.low {u:Nat} {w:World} {F:List Nat} {d:Nat} {D:Dsk} (h:za4 u w F d D):∀ x∈F,u≤x∧x<w.heap.size:=by
 obtain ⟨s,c,m,X,ov,K,h⟩:=h
 exact h.low
theorem za4.base {u:Nat} {w:World} {F:List Nat} {d:Nat} {D:Dsk} (h:za4 u w F d D):u≤w.heap.size:=by
 obtain ⟨s,c,m,X,ov,K,h⟩:=h
 have:=h.low _ h.inD
 omega
theorem DiskM.fr {u:Nat} {w a:World} {F G:List Nat} {d s c m:Nat} {X:List Value} {ov:Value} {K:List (Nat × Value)} {D:Dsk} (h:DiskM u w F d s c m X ov K D) (g:Fr w a G) (hG:∀ x∈F,x∉G):DiskM u a F d s c m X ov K D :=
 ⟨g.blk h.blk (hG _ h.inD),g.blk h.sec (hG _ h.inS),h.fits,g.own h.ord (fun b hb=>hG _ (h.inO b hb)),h.und.fr g (hG _ h.inM) (fun p hp b hb=>hG _ (h.inK p hp b hb).1),h.inD,h.inS,h.inM,h.inO,h.inK,fun x hx=>⟨(h.low x hx).1,Nat.lt_of_lt_of_le (h.low x hx).2 g.size⟩,h.ok⟩
theorem za4.fr {u:Nat} {w a:World} {F G:List Nat} {d:Nat} {D:Dsk} (h:za4 u w F d D) (g:Fr w a G) (hG:∀ x∈F,x∉G):za4 u a F d D:=by
 obtain ⟨s,c,m,X,ov,K,h⟩:=h
 exact (h.fr g hG).at
theorem za4.none {u:Nat} {w a:World} {F:List Nat} {d:Nat} {D:Dsk} (h:za4 u w F d D) (g:w.grownBy a Option.none):za4 u a F d D:=h.fr (Fr.none g []) (fun _ _ e=>by cases e)
def Left (u:Nat) (w w' : World) (F:List Nat) (d:Nat) (D:Dsk):Prop:=∃ F',za4 u w' F' d D∧Fr w w' F∧∀ x∈F',x∈F∨w.heap.size≤x
theorem DiskM.d_s {u:Nat} {w:World} {F:List Nat} {d s c m:Nat} {X:List Value} {ov:Value} {K:List (Nat × Value)} {D:Dsk} (h:DiskM u w F d s c m X ov K D):d≠s:=zmx h.blk h.sec (by decide)
theorem DiskM.m_d {u:Nat} {w:World} {F:List Nat} {d s c m:Nat} {X:List Value} {ov:Value} {K:List (Nat × Value)} {D:Dsk} (h:DiskM u w F d s c m X ov K D):m≠d:=h.und.map.blk h.blk
theorem DiskM.m_s {u:Nat} {w:World} {F:List Nat} {d s c m:Nat} {X:List Value} {ov:Value} {K:List (Nat × Value)} {D:Dsk} (h:DiskM u w F d s c m X ov K D):m≠s:=h.und.map.blk h.sec
theorem DiskM.head {u:Nat} {w a:World} {F:List Nat} {d s c m:Nat} {X:List Value} {ov:Value} {K:List (Nat × Value)} {D:Dsk} (h:DiskM u w F d s c m X ov K D) (g:w.grownBy a (some d)) {D' : Dsk} (hs:D'.safe=D.safe) (hU:D'.U=D.U)
  (hb:Blk a d 77 [.slice (some ⟨s,0,none⟩) D'.safe.length c,ov,.map (some m),.int .i64 D'.left,.bool D'.down]) (hok:D'.Ok):DiskM u a F d s c m X ov K D':=by
 have hds:=h.d_s
 have hmd:=h.m_d
 refine ⟨hb,?_,?_,?_,?_,h.inD,h.inS,h.inM,h.inO,h.inK,fun x hx=>⟨(h.low x hx).1,Nat.lt_of_lt_of_le (h.low x hx).2 g.size⟩,hok⟩
 ·rw[hs];exact h.sec.kept g (fun e=>hds (by cases e;rfl))
 ·rw[hs];exact h.fits
 ·rw[hU];exact h.ord.kept g (Or.inr fun e=>zap h.ord h.blk (by decide) e.symm)
 ·rw[hU];exact h.und.kept g (fun e=>hmd (by cases e;rfl)) (fun p hp b hb e=>zap (h.und.row p hp) h.blk (by decide) (by rw[hb];exact e.symm))
theorem DiskM.c0 {u:Nat} {w:World} {F:List Nat} {d s c m:Nat} {X:List Value} {ov:Value} {K:List (Nat × Value)} {D:Dsk} (h:DiskM u w F d s c m X ov K D):w.cell? ⟨d,0,none⟩=some (.slice (some ⟨s,0,none⟩) D.safe.length c):=by rw[h.blk.cell];rfl
theorem DiskM.c1 {u:Nat} {w:World} {F:List Nat} {d s c m:Nat} {X:List Value} {ov:Value} {K:List (Nat × Value)} {D:Dsk} (h:DiskM u w F d s c m X ov K D):w.cell? ⟨d,1,none⟩=some ov:=by rw[h.blk.cell];rfl
theorem DiskM.c2 {u:Nat} {w:World} {F:List Nat} {d s c m:Nat} {X:List Value} {ov:Value} {K:List (Nat × Value)} {D:Dsk} (h:DiskM u w F d s c m X ov K D):w.cell? ⟨d,2,none⟩=some (.map (some m)):=by rw[h.blk.cell];rfl
theorem DiskM.c3 {u:Nat} {w:World} {F:List Nat} {d s c m:Nat} {X:List Value} {ov:Value} {K:List (Nat × Value)} {D:Dsk} (h:DiskM u w F d s c m X ov K D):w.cell? ⟨d,3,none⟩=some (.int .i64 D.left):=by rw[h.blk.cell];rfl
theorem DiskM.c4 {u:Nat} {w:World} {F:List Nat} {d s c m:Nat} {X:List Value} {ov:Value} {K:List (Nat × Value)} {D:Dsk} (h:DiskM u w F d s c m X ov K D):w.cell? ⟨d,4,none⟩=some (.bool D.down):=by rw[h.blk.cell];rfl
theorem zm7 (w:World) (d s n c:Nat) (hn:0<n) (h1:w.cell? ⟨d,0,none⟩=some (.slice (some ⟨s,0,none⟩) n c)) :
  Calls Tryz.prog 44 #[.pointer (some ⟨d,0,none⟩)] w fun e w'=>e = .returned (.bool true)∧w'=w:=by
 go_enter Tryz.func44,Tryz.ntmps44
 go_wp2
 go_ret
 exact ⟨by simp,rfl⟩
theorem DiskM.made {u:Nat} {w:World} {F:List Nat} {d s c m:Nat} {X:List Value} {ov:Value} {K:List (Nat × Value)} {D:Dsk} (h:DiskM u w F d s c m X ov K D) :
  Calls Tryz.prog 44 #[.pointer (some ⟨d,0,none⟩)] w fun e w'=>e = .returned (.bool true)∧w'=w:=zm7 w d s _ c h.ok.pos h.c0
theorem zde (u:Nat) (w:World) (F:List Nat) (d s c m:Nat) (X:List Value) (ov:Value) (K:List (Nat × Value)) (D:Dsk) (h:DiskM u w F d s c m X ov K D) :
  Calls Tryz.prog 50 #[.pointer (some ⟨d,0,none⟩)] w fun e w'=>e = .returned (.int .i64 (if D.down=true then 17 else 0))∧w'=w:=by
 have c1:=h.made
 have h4:=h.c4
 obtain ⟨x,hx⟩:∃ x,x=D.down:=⟨_,rfl⟩
 rw[← hx] at h4 ⊢
 clear hx h
 cases x with
 | true =>
   go_enter Tryz.func50,Tryz.ntmps50
   go_wp2_with (go_at_call 44;refine c1.mono ?_;rintro e w2 ⟨rfl,e2⟩;subst w2;clear c1)
   go_ret
   exact ⟨rfl,rfl⟩
 | false =>
   go_enter Tryz.func50,Tryz.ntmps50
   go_wp2_with (go_at_call 44;refine c1.mono ?_;rintro e w2 ⟨rfl,e2⟩;subst w2;clear c1)
   go_ret
   exact ⟨rfl,rfl⟩
theorem zhq (w:World) (d s n c:Nat) (h1:w.cell? ⟨d,0,none⟩=some (.slice (some ⟨s,0,none⟩) n c)) (i:Int) :
  Calls Tryz.prog 70 #[.pointer (some ⟨d,0,none⟩),.int .i64 i] w fun e w'=>e = .returned (.bool (decide (0≤i∧i<(n:Int))))∧w'=w:=by
 by_cases h0:0≤i
 ·have hd:decide (0≤i)=true:=by simp[h0]
  go_enter Tryz.func70,Tryz.ntmps70
  go_wp2
  go_ret
  exact ⟨by simp[h0],rfl⟩
 ·have hd:decide (0≤i)=false:=by simp[h0]
  go_enter Tryz.func70,Tryz.ntmps70
  go_wp2
  go_ret
  exact ⟨by simp,rfl⟩
theorem zey (u:Nat) (w:World) (F:List Nat) (d s c m:Nat) (X:List Value) (ov:Value) (K:List (Nat × Value)) (D:Dsk) (h:DiskM u w F d s c m X ov K D) :
  Calls Tryz.prog 100 #[.pointer (some ⟨d,0,none⟩)] w fun e w'=>e = .returned (.int .i64 (cntD D).2)∧DiskM u w' F d s c m X ov K (cntD D).1∧w.grownBy w' (some d):=by
 have h3:=h.c3
 have f3:=h.blk.fz 3
 have f4:=h.blk.fz 4
 have h4:=h.c4
 have ok:=h.ok.cnt
 have es:=zih D
 have hfin1:D.left=0→DiskM u (w.setCell ⟨d,4,none⟩ (.bool true)) F d s c m X ov K (cntD D).1:=fun e=>h.head (zbs _ _ _ _) es.1 es.2 (by
  have:=h.blk.set 4 (.bool true)
  unfold cntD
  rw[if_pos e]
  exact this) ok
 have hfin2:D.left≠0→0<D.left→DiskM u (w.setCell ⟨d,3,none⟩ (.int .i64 (D.left - 1))) F d s c m X ov K (cntD D).1:=fun e e2=>h.head (zbs _ _ _ _) es.1 es.2 (by
  have:=h.blk.set 3 (.int .i64 (D.left - 1))
  unfold cntD
  rw[if_neg e,if_pos e2]
  exact this) ok
 have g1:=zbs w d 4 (.bool true)
 have g2:=zbs w d 3 (.int .i64 (D.left - 1))
 have H3:=h.c3
 obtain ⟨y,hy⟩:∃ y,y=D.left:=⟨_,rfl⟩
 have hl:=h.ok.lim
 rw[← hy] at h3 hl hfin1 hfin2 g2
 by_cases e0:y=0
 ·have e1:cntD D=({ D with down:=true },17):=by unfold cntD;rw[if_pos (by rw[← hy];exact e0)]
  have hF:=hide (hfin1 e0)
  rw[e1]
  rw[e1] at hF
  clear hfin1 hfin2 ok es h e1 hy H3
  go_enter Tryz.func100,Tryz.ntmps100
  go_wp2
  go_ret
  exact ⟨rfl,uh hF,g1⟩
 ·by_cases e2:0<y
  ·have e1:cntD D=({ D with left:=D.left - 1 },0):=by unfold cntD;rw[if_neg (by rw[← hy];exact e0),if_pos (by rw[← hy];exact e2)]
   have hF:=hide (hfin2 e0 e2)
   have hw:IntKind.i64.wrap (y - 1)=y - 1:=by
    rw[IntKind.wrap_i64];omega
   rw[e1]
   rw[e1] at hF
   clear hfin1 hfin2 ok es h e1 hy H3
   go_enter Tryz.func100,Tryz.ntmps100
   go_wp2
   go_ret
   exact ⟨rfl,uh hF,g2⟩
  ·have e1:cntD D=(D,0):=by unfold cntD;rw[if_neg (by rw[← hy];exact e0),if_neg (by rw[← hy];exact e2)]
   rw[e1]
   clear hfin1 hfin2 ok es e1 hy H3
   have H:=hide h
   clear h
   go_enter Tryz.func100,Tryz.ntmps100
   go_wp2
   go_ret
   exact ⟨rfl,uh H,zac _ _⟩
end Go.Proofs.YtoilcpdhhlcidaaGreatDoor
