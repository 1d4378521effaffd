/- Lemmas. -/
import Derived.MapKept
import Derived.Carry
import Derived.Stop.BytesEq
import GoSem.Builtin.Delete
import Derived.Test.YtoilcpdhhlcidaaGreatDoorDkKy
import Derived.Test.YtoilcpdhhlcidaaGreatDoorMOwn
namespace Go.Proofs.YtoilcpdhhlcidaaGreatDoor
open Go.RowKit
set_option maxRecDepth 100000
theorem zkr {a b:List UInt8} : str a=str b↔a=b:=by
 constructor
 ·intro h
  have:=congrArg ByteArray.toList h
  rwa [zbt,zbt] at this
 ·intro h;rw[h]
def keyS (x:List UInt8):Value := .string (str x)
theorem zpk {a b:List UInt8} (h:keyS a=keyS b):a=b:=by
 unfold keyS at h
 injection h with h
 exact zkr.1 h
theorem znd (a b:List UInt8):Instr.sameNow .string (keyS a) (keyS b)=some (a == b):=by
 obtain ⟨r,h1,h2⟩:=MapKept.sameNow_of_keys (d := .string) (a := .string (str a)) (b := .string (str b)) (by simp[MapKept.IsKey]) (by simp[MapKept.IsKey])
 unfold keyS
 rw[h1]
 by_cases h:a=b
 ·subst h;rw[h2.2 rfl];simp
 ·have:r=false:=by
   cases r with
   | false=>rfl
   | true=>have:=h2.1 rfl;injection this with this;exact absurd (zkr.1 this) h
  rw[this,beq_eq_false_iff_ne.2 h]
theorem zez (w:World) (b:Bool) (a:List UInt8):(Instr.checkKey b 10000 9 (keyS a)).run Tryz.prog w = .ok () w :=
 MapKept.run_checkKey (d := .string) Tryz.underlying9 (by simp[MapKept.IsKey,keyS]) b 9999
structure SmapAt (w:World) (m:Nat) (K:List (List UInt8 × Value)):Prop where
 is:∃ A clock,w.heap[m]? = some (.map A clock)∧A.toList.map (fun e=>(e.key,e.val))=K.map (fun p=>(keyS p.1,p.2))∧(∀ e∈A.toList,e.born<clock)∧(A.toList.map (·.born)).Nodup
 once:(K.map (·.1)).Nodup
theorem SmapAt.lt {w:World} {m:Nat} {K:List (List UInt8 × Value)} (h:SmapAt w m K):m<w.heap.size:=by
 obtain ⟨_,_,h,_⟩:=h.is
 exact (Array.getElem?_eq_some_iff.1 h).1
theorem SmapAt.same {w a:World} {m:Nat} {K:List (List UInt8 × Value)} (h:SmapAt w m K) (g:a.heap[m]? = w.heap[m]?):SmapAt a m K:=by
 obtain ⟨A,c,h1,h2⟩:=h.is
 exact ⟨⟨A,c,by rw[g];exact h1,h2⟩,h.once⟩
theorem SmapAt.kept {w a:World} {m:Nat} {K:List (List UInt8 × Value)} {r:Option Nat} (h:SmapAt w m K) (g:w.grownBy a r) (hr:some m≠r):SmapAt a m K:=h.same (g.block m h.lt hr)
theorem SmapAt.none {w a:World} {m:Nat} {K:List (List UInt8 × Value)} (h:SmapAt w m K) (g:w.grownBy a Option.none):SmapAt a m K:=h.kept g (by simp)
theorem SmapAt.new (w:World):SmapAt (w.alloc (.map #[] 0)) w.heap.size []:=⟨⟨#[],0,heap_alloc_new w _,rfl,by simp,by simp⟩,by simp⟩
theorem SmapAt.blk {w:World} {m b:Nat} {K:List (List UInt8 × Value)} {t:TypeId} {cs:List Value} (h:SmapAt w m K) (hb:Blk w b t cs):m≠b:=by
 rintro rfl
 obtain ⟨_,_,h,_⟩:=h.is
 unfold Blk at hb
 rw[hb] at h
 cases h
theorem SmapAt.typ {w:World} {m:Nat} {K:List (List UInt8 × Value)} (h:SmapAt w m K):¬ Typ w m:=by
 rintro ⟨_,_,h2⟩
 obtain ⟨_,_,h,_⟩:=h.is
 rw[h2] at h
 cases h
theorem SmapAt.own {w:World} {m base k n:Nat} {K:List (List UInt8 × Value)} {t:TypeId} {v:Value} {xs:List Value} (h:SmapAt w m K) (ho:w.ownsRow base t k v n xs):some m≠v.ownBlock:=by
 obtain ⟨_,_,h,_⟩:=h.is
 rcases ho.2 with ⟨rfl,_⟩ | ⟨g,cap,cur,rfl,_,hh,_⟩
 ·intro e;cases e
 ·intro e
  have:m=g:=by simpa[Value.ownBlock] using e
  subst this
  rw[hh] at h
  cases h
def getZ (K:List (List UInt8 × Value)) (x:List UInt8):Option Value:=(K.find? fun p=>p.1 == x).map (·.2)
def putZ (K:List (List UInt8 × Value)) (x:List UInt8) (v:Value):List (List UInt8 × Value):=if x∈K.map (·.1) then K.map fun p=>if p.1=x then (x,v) else p else K++[(x,v)]
def delZ (K:List (List UInt8 × Value)) (x:List UInt8):List (List UInt8 × Value):=K.filter fun p=>p.1 != x
theorem zd2 (K:List (List UInt8 × Value)) (x:List UInt8):(getZ K x).isSome=true↔x∈K.map (·.1):=by
 unfold getZ
 rw[Option.isSome_map,List.find?_isSome]
 constructor
 ·rintro ⟨p,hp,h⟩
  exact List.mem_map.2 ⟨p,hp,by simpa using h⟩
 ·intro h
  obtain ⟨p,hp,rfl⟩:=List.mem_map.1 h
  exact ⟨p,hp,by simp⟩
theorem zne {K:List (List UInt8 × Value)} {x:List UInt8} (h:x∉K.map (·.1)):getZ K x=none:=by
 cases hg:getZ K x with
 | none=>rfl
 | some v=>exact absurd ((zd2 K x).1 (by rw[hg];rfl)) h
theorem zks {K:List (List UInt8 × Value)} {x:List UInt8} {v:Value} (h:getZ K x=some v):(x,v)∈K:=by
 unfold getZ at h
 obtain ⟨p,hp,rfl⟩:=Option.map_eq_some_iff.1 h
 have h1:=List.mem_of_find?_eq_some hp
 have h2:p.1=x:=by simpa using List.find?_some hp
 obtain ⟨a,b⟩:=p
 simp only at h2
 subst h2
 exact h1
theorem zkt (x:List UInt8):∀ (l:List MapEntry) (K:List (List UInt8 × Value)) (i:Nat),l.map (fun e=>(e.key,e.val))=K.map (fun p=>(keyS p.1,p.2)) →
  (x∉K.map (·.1)∧Instr.findNow (.string) (keyS x) l i=some none) ∨
   ∃ (j:Nat) (hj:j<K.length),K[j].1=x∧(∀ q (hq:q<j),(K[q]'(by omega)).1≠x)∧Instr.findNow (.string) (keyS x) l i=some (some (i+j,K[j].2))
 | [],[],_,_=>Or.inl ⟨by simp,rfl⟩
 | [],_::_,_,h=>by simp at h
 | _::_,[],_,h=>by simp at h
 | e::l,p::K,i,h=>by
   simp only[List.map_cons,List.cons.injEq,Prod.mk.injEq] at h
   obtain ⟨⟨h1,h2⟩,h3⟩:=h
   have hs:Instr.sameNow (.string) (keyS x) e.key=some (x == p.1):=by rw[h1];exact znd x p.1
   by_cases hp:p.1=x
   ·refine Or.inr ⟨0,by simp,hp,fun q hq=>by omega,?_⟩
    unfold Instr.findNow
    rw[hs,hp,beq_self_eq_true,h2];rfl
   ·have hb:(x == p.1)=false:=beq_eq_false_iff_ne.2 fun e=>hp e.symm
    have hF:Instr.findNow (.string) (keyS x) (e::l) i=Instr.findNow (.string) (keyS x) l (i+1):=by
     conv=>lhs;unfold Instr.findNow
     rw[hs,hb]
    rw[hF]
    rcases zkt x l K (i+1) h3 with ⟨h4,h5⟩ | ⟨j,hj,h4,h6,h5⟩
    ·exact Or.inl ⟨by simp only[List.map_cons,List.mem_cons,not_or];exact ⟨fun e=>hp e.symm,h4⟩,h5⟩
    ·refine Or.inr ⟨j+1,by simp;omega,by simpa using h4,fun q hq => ?_,by rw[h5];simp;omega⟩
     cases q with
     | zero=>exact hp
     | succ q=>simpa using h6 q (by omega)
theorem zf5 (w:World) (x:List UInt8) (A:Array MapEntry) (K:List (List UInt8 × Value)) (h:A.toList.map (fun e=>(e.key,e.val))=K.map (fun p=>(keyS p.1,p.2))) :
  (x∉K.map (·.1)∧(Instr.findKey 9 (keyS x) A.toList).run Tryz.prog w = .ok none w) ∨
   ∃ (j:Nat) (hj:j<K.length),K[j].1=x∧(∀ q (hq:q<j),(K[q]'(by omega)).1≠x)∧(Instr.findKey 9 (keyS x) A.toList).run Tryz.prog w = .ok (some (j,K[j].2)) w:=by
 rcases zkt x A.toList K 0 h with ⟨h1,h2⟩ | ⟨j,hj,h1,h2,h3⟩
 ·exact Or.inl ⟨h1,MapKept.run_findKey Tryz.underlying9 h2⟩
 ·exact Or.inr ⟨j,hj,h1,h2,MapKept.run_findKey Tryz.underlying9 (by rw[h3,Nat.zero_add])⟩
theorem zq2 {K:List (List UInt8 × Value)} {x:List UInt8} {j:Nat} (hj:j<K.length) (h1:K[j].1=x) (h2:∀ q (hq:q<j),(K[q]'(by omega)).1≠x):getZ K x=some K[j].2:=by
 unfold getZ
 rw[List.find?_eq_some_iff_getElem.2 ⟨by simpa using h1,j,hj,rfl,fun q hq=>by simpa using h2 q hq⟩]
 rfl
theorem SmapAt.look {w:World} {m:Nat} {K:List (List UInt8 × Value)} (h:SmapAt w m K) (t e:TypeId) (ht:Tryz.prog.underlying t=some (.map 9 e)) (z:Value) (hz:(zeroValue e).run Tryz.prog w = .ok z w) (x:List UInt8) (ok:Bool) :
  (Instr.lookup t (.map (some m)) (keyS x) ok).run Tryz.prog w = .ok (if ok then .tuple #[(getZ K x).getD z,.bool (getZ K x).isSome] else (getZ K x).getD z) w:=by
 obtain ⟨A,c,h1,h2,_⟩:=h.is
 have hc:=zez w A.isEmpty x
 have hg:=MapKept.run_getObj_map (P:=Tryz.prog) h1
 rcases zf5 w x A K h2 with ⟨h4,h5⟩ | ⟨j,hj,h4,h6,h5⟩
 ·rw[zne h4]
  simp[Instr.lookup,run_underlying ht,hg,hc,h5,hz,Result.andThen]
 ·rw[zq2 hj h4 h6]
  simp[Instr.lookup,run_underlying ht,hg,hc,h5,Result.andThen]
theorem zdf {A:Array MapEntry} (j:Nat) (f:MapEntry→MapEntry):(A.modify j f).toList=A.toList.modify j f:=by simp
theorem SmapAt.store {w:World} {m:Nat} {K:List (List UInt8 × Value)} (h:SmapAt w m K) (t e:TypeId) (ht:Tryz.prog.underlying t=some (.map 9 e)) (x:List UInt8) (v:Value) :
  ∃ w',(Instr.mapUpdate t (.map (some m)) (keyS x) v).run Tryz.prog w = .ok () w'∧SmapAt w' m (putZ K x v)∧w.grownBy w' (some m)∧w'.heap.size=w.heap.size:=by
 have hlt:=h.lt
 obtain ⟨A,c,h1,h2,hb,hnd⟩:=h.is
 have hc:=zez w false x
 have hg:=MapKept.run_getObj_map (P:=Tryz.prog) h1
 have hgr:∀ o:Obj,w.grownBy { w with heap:=w.heap.setIfInBounds m o } (some m):=fun o=>⟨rfl,rfl,rfl,by simp,fun i _ hi=>by
  have:m≠i:=fun e=>hi (by rw[e])
  simp[this]⟩
 have hsame:∀ o:Obj,({ w with heap:=w.heap.setIfInBounds m o } : World).heap[m]? = some o:=fun o=>by simp[hlt]
 rcases zf5 w x A K h2 with ⟨h4,h5⟩ | ⟨j,hj,h4,h6,h5⟩
 ·refine ⟨{ w with heap:=w.heap.setIfInBounds m (.map (A.push { key:=keyS x,val:=v,born:=c }) (c+1)) },?_,⟨⟨_,_,hsame _,?_,?_,?_⟩,?_⟩,hgr _,by simp⟩
  ·simp[Instr.mapUpdate,run_underlying ht,hg,hc,h5,Result.andThen,MapKept.run_setObj_map _ h1]
  ·unfold putZ;rw[if_neg h4];simp[h2]
  ·intro y hy
   simp only[Array.toList_push,List.mem_append,List.mem_singleton] at hy
   rcases hy with hy | rfl
   ·exact Nat.lt_succ_of_lt (hb y hy)
   ·exact Nat.lt_succ_self _
  ·simp only[Array.toList_push,List.map_append,List.map_cons,List.map_nil]
   refine List.nodup_append.2 ⟨hnd,by simp,?_⟩
   intro a ha b hb2
   simp only[List.mem_singleton] at hb2
   subst hb2
   obtain ⟨y,hy,rfl⟩:=List.mem_map.1 ha
   exact Nat.ne_of_lt (hb y hy)
  ·unfold putZ;rw[if_neg h4]
   rw[List.map_append]
   refine List.nodup_append.2 ⟨h.once,by simp,?_⟩
   intro a ha b hb2
   simp only[List.map_cons,List.map_nil,List.mem_singleton] at hb2
   subst hb2
   exact fun e=>h4 (e ▸ ha)
 ·have hmem:x∈K.map (·.1):=List.mem_map.2 ⟨K[j],List.getElem_mem _,h4⟩
  have hlen:A.toList.length=K.length:=by have:=congrArg List.length h2;simpa using this
  have hjA:j<A.toList.length:=by omega
  have hkey:A.toList[j].key=keyS x:=by
   have h7:(A.toList.map (fun e=>(e.key,e.val)))[j]? = (K.map (fun p=>(keyS p.1,p.2)))[j]? := by rw[h2]
   rw[List.getElem?_map,List.getElem?_map,List.getElem?_eq_getElem hjA,List.getElem?_eq_getElem hj] at h7
   simp only[Option.map_some,Option.some.injEq,Prod.mk.injEq] at h7
   rw[h7.1,h4]
  have hst:(Instr.keyThatStays (keyS x) (keyS x)).run Tryz.prog w = .ok (keyS x) w:=MapKept.run_keyThatStays (d := .string) (by simp[MapKept.IsKey,keyS])
  have hjB:j<A.size:=by simpa using hjA
  have hkey2:A[j].key=keyS x:=by simpa using hkey
  have hjo:A[j]? = some A[j]:=by simp[hjB]
  have hjo2:A[j]? = some A.toList[j]:=by
   rw[← Array.getElem?_toList,List.getElem?_eq_getElem hjA]
  have hput:putZ K x v=K.modify j fun _=>(x,v):=by
   unfold putZ;rw[if_pos hmem]
   apply List.ext_getElem?
   intro i
   rw[List.getElem?_map,List.getElem?_modify]
   by_cases hij:j=i
   ·subst hij
    rw[List.getElem?_eq_getElem hj]
    simp[h4]
   ·simp only[if_neg hij]
    cases hi:K[i]? with
    | none=>rfl
    | some p =>
      obtain ⟨hi2,rfl⟩:=List.getElem?_eq_some_iff.1 hi
      have:K[i].1≠x:=fun e=>hij (by
       have h8:(K.map (·.1))[j]'(by simpa using hj)=(K.map (·.1))[i]'(by simpa using hi2):=by simp[h4,e]
       exact (List.getElem_inj h.once).1 h8)
      simp[this]
  refine ⟨{ w with heap:=w.heap.setIfInBounds m (.map (A.modify j fun e=>{ e with key:=keyS x,val:=v }) c) },?_,⟨⟨_,_,hsame _,?_,?_,?_⟩,?_⟩,hgr _,by simp⟩
  ·simp[Instr.mapUpdate,run_underlying ht,hg,hc,h5,Result.andThen,MapKept.run_setObj_map _ h1,hjo,hkey2,hst]
  ·rw[hput,zdf]
   apply List.ext_getElem?
   intro i
   rw[List.getElem?_map,List.getElem?_map,List.getElem?_modify,List.getElem?_modify]
   have h7:(A.toList.map (fun e=>(e.key,e.val)))[i]? = (K.map (fun p=>(keyS p.1,p.2)))[i]? := by rw[h2]
   rw[List.getElem?_map,List.getElem?_map] at h7
   by_cases hij:j=i
   ·subst hij
    rw[List.getElem?_eq_getElem hjA,List.getElem?_eq_getElem hj]
    simp
   ·simp only[if_neg hij]
    simpa using h7
  ·intro y hy
   rw[zdf] at hy
   obtain ⟨i,hi⟩:=List.mem_iff_getElem?.1 hy
   rw[List.getElem?_modify] at hi
   obtain ⟨z,hz,rfl⟩:=Option.map_eq_some_iff.1 hi
   have:=hb z (List.mem_of_getElem? hz)
   split <;> exact this
  ·have:(A.modify j fun e=>{ e with key:=keyS x,val:=v }).toList.map (·.born)=A.toList.map (·.born):=by
    rw[zdf]
    apply List.ext_getElem?
    intro i
    rw[List.getElem?_map,List.getElem?_map,List.getElem?_modify]
    cases A.toList[i]? with
    | none=>rfl
    | some z=>simp only[Option.map_some];split <;> rfl
   rw[this];exact hnd
  ·have:(putZ K x v).map (·.1)=K.map (·.1):=by
    unfold putZ;rw[if_pos hmem,List.map_map]
    apply List.map_congr_left
    intro p _
    simp only[Function.comp]
    split
    ·rename_i e;exact e.symm
    ·rfl
   rw[this];exact h.once
theorem ze0 {α β:Type} (f:α→β) (l:List α) (i:Nat):(l.eraseIdx i).map f=(l.map f).eraseIdx i:=by
 rw[List.eraseIdx_eq_take_drop_succ,List.eraseIdx_eq_take_drop_succ,List.map_append,List.map_take,List.map_drop]
theorem zhs {K:List (List UInt8 × Value)} (x:List UInt8) (v:Value) (p:List UInt8 × Value):p∈putZ K x v↔p=(x,v)∨(p∈K∧p.1≠x):=by
 unfold putZ
 split
 ·rename_i hm
  rw[List.mem_map]
  constructor
  ·rintro ⟨q,hq,rfl⟩
   split
   ·exact Or.inl rfl
   ·rename_i h;exact Or.inr ⟨hq,h⟩
  ·rintro (rfl | ⟨h1,h2⟩)
   ·obtain ⟨q,hq,h⟩:=List.mem_map.1 hm
    exact ⟨q,hq,if_pos h⟩
   ·exact ⟨p,h1,if_neg h2⟩
 ·rename_i hm
  rw[List.mem_append,List.mem_singleton]
  constructor
  ·rintro (h | h)
   ·exact Or.inr ⟨h,fun e=>hm (e ▸ List.mem_map.2 ⟨p,h,rfl⟩)⟩
   ·exact Or.inl h
  ·rintro (h | ⟨h,_⟩)
   ·exact Or.inr h
   ·exact Or.inl h
theorem zku {K:List (List UInt8 × Value)} (x:List UInt8) (p:List UInt8 × Value):p∈delZ K x↔p∈K∧p.1≠x:=by simp[delZ]
theorem SmapAt.del {w:World} {m:Nat} {K:List (List UInt8 × Value)} (h:SmapAt w m K) (t e u:TypeId) (T:Array TypeId) (hT:T[0]? = some t) (ht:Tryz.prog.underlying t=some (.map 9 e)) (x:List UInt8) :
  ∃ w',(Builtin.delete_ T u #[.map (some m),keyS x]).run Tryz.prog w = .ok (.tuple #[]) w'∧SmapAt w' m (delZ K x)∧w.grownBy w' (some m)∧w'.heap.size=w.heap.size:=by
 have hlt:=h.lt
 obtain ⟨A,c,h1,h2,hb,hnd⟩:=h.is
 have hc:=zez w A.isEmpty x
 have hg:=MapKept.run_getObj_map (P:=Tryz.prog) h1
 have hgr:∀ o:Obj,w.grownBy { w with heap:=w.heap.setIfInBounds m o } (some m):=fun o=>⟨rfl,rfl,rfl,by simp,fun i _ hi=>by
  have:m≠i:=fun e=>hi (by rw[e])
  simp[this]⟩
 have hsame:∀ o:Obj,({ w with heap:=w.heap.setIfInBounds m o } : World).heap[m]? = some o:=fun o=>by simp[hlt]
 have hlen:A.toList.length=K.length:=by have:=congrArg List.length h2;simpa using this
 have honce:((delZ K x).map (·.1)).Nodup:=(List.filter_sublist.map _).nodup h.once
 rcases zf5 w x A K h2 with ⟨h4,h5⟩ | ⟨j,hj,h4,h6,h5⟩
 ·have hd:delZ K x=K:=by
   unfold delZ
   rw[List.filter_eq_self]
   intro p hp
   simp only[bne_iff_ne,ne_eq]
   rintro rfl
   exact h4 (List.mem_map.2 ⟨p,hp,rfl⟩)
  refine ⟨{ w with heap:=w.heap.setIfInBounds m (.map A c) },?_,⟨⟨_,_,hsame _,by rw[hd];exact h2,hb,hnd⟩,honce⟩,hgr _,by simp⟩
  simp[Builtin.delete_,hT,run_underlying ht,hg,hc,h5,Result.andThen,MapKept.run_setObj_map _ h1]
 ·have hjA:j<A.size:=by
   simp only[Array.length_toList] at hlen
   omega
  have hel:(A.eraseIdxIfInBounds j).toList=A.toList.eraseIdx j:=by
   unfold Array.eraseIdxIfInBounds
   rw[dif_pos hjA];simp
  have hd:delZ K x=K.eraseIdx j:=by
   unfold delZ
   have hsp:K=K.take j++K[j]::K.drop (j+1):=by rw[← List.drop_eq_getElem_cons hj,List.take_append_drop]
   have hn:((K.take j).map (·.1)++K[j].1::(K.drop (j+1)).map (·.1)).Nodup:=by
    have h9:=congrArg (List.map (·.1)) hsp
    rw[List.map_append,List.map_cons] at h9
    rw[← h9];exact h.once
   have hn2:=List.nodup_append.1 hn
   have hn3:=List.nodup_cons.1 hn2.2.1
   rw[List.eraseIdx_eq_take_drop_succ]
   have hf:K.filter (fun p=>p.1 != x)=(K.take j++K[j]::K.drop (j+1)).filter (fun p=>p.1 != x):=congrArg _ hsp
   rw[hf,List.filter_append,List.filter_cons,if_neg (by simp[h4])]
   refine congr (congrArg _ ?_) ?_
   ·rw[List.filter_eq_self]
    intro p hp
    simp only[bne_iff_ne,ne_eq]
    intro e
    exact hn2.2.2 p.1 (List.mem_map.2 ⟨p,hp,rfl⟩) K[j].1 (by simp) (by rw[e,h4])
   ·rw[List.filter_eq_self]
    intro p hp
    simp only[bne_iff_ne,ne_eq]
    intro e
    exact hn3.1 (by rw[h4,← e];exact List.mem_map.2 ⟨p,hp,rfl⟩)
  refine ⟨{ w with heap:=w.heap.setIfInBounds m (.map (A.eraseIdxIfInBounds j) c) },?_,⟨⟨_,_,hsame _,?_,?_,?_⟩,honce⟩,hgr _,by simp⟩
  ·simp[Builtin.delete_,hT,run_underlying ht,hg,hc,h5,Result.andThen,MapKept.run_setObj_map _ h1]
  ·rw[hd,hel,ze0,ze0,h2]
  ·intro y hy
   rw[hel] at hy
   exact hb y (List.mem_of_mem_eraseIdx hy)
  ·rw[hel,ze0]
   exact (List.eraseIdx_sublist _ _).nodup hnd
theorem zdg:(Tryz.prog.info? 95).map (·.size)=some 256:=by kernel_rfl
theorem zei:∃ Z:Array Value,Z.size=256∧∀ w,(zeroValue 95).run Tryz.prog w = .ok (.agg Z) w:=⟨_,by rw[List.size_toArray,zbe,zea],zkq⟩
theorem zej (w:World):(zeroValue 74).run Tryz.prog w = .ok (.slice none 0 0) w:=by kernel_rfl
theorem zgz (S:List (List UInt8)) (h:∀ s∈S,s.length=256) (i:Nat) (hi:i<S.length):∃ A B,S.flatMap secC=A++(secC S[i]++B)∧A.length=i*256:=by
 refine ⟨(S.take i).flatMap secC,(S.drop (i+1)).flatMap secC,?_,?_⟩
 ·conv=>lhs;rw[← List.take_append_drop i S,List.drop_eq_getElem_cons hi]
  rw[List.flatMap_append,List.flatMap_cons]
 ·rw[zee secC 256 _ (fun x hx=>by rw[zbe];exact h x (List.mem_of_mem_take hx)),List.length_take,Nat.min_eq_left (Nat.le_of_lt hi)]
theorem ziy {w:World} {s:Nat} {S:List (List UInt8)} {X:List Value} (h:Blk w s 95 (S.flatMap secC++X)) (hS:∀ x∈S,x.length=256) (i:Nat) (hi:i<S.length):w.rangeAt s (i*256) (secC S[i]):=by
 obtain ⟨A,B,e,hA⟩:=zgz S hS i hi
 rw[e] at h
 have h2:Blk w s 95 (A++(secC S[i]++(B++X))):=by simpa using h
 have:=h2.range
 rwa [hA] at this
theorem DiskM.range {u:Nat} {w:World} {F:List Nat} {d s c m:Nat} {X:List Value} {ov:Value} {K:List (Nat × Value)} {D:Dsk} (h:DiskM u w F d s c m X ov K D) (i:Nat) (hi:i<D.safe.length):w.rangeAt s (i*256) (secC (zie D i)):=by
 have:=ziy h.sec h.ok.wide i hi
 unfold zie
 rw[List.getElem?_eq_getElem hi]
 exact this
set_option maxHeartbeats 2000000 in
theorem znf (u:Nat) (w:World) (F:List Nat) (d s c m:Nat) (X:List Value) (ov:Value) (K:List (Nat × Value)) (D:Dsk) (h:DiskM u w F d s c m X ov K D) (i:Nat) (hi:i<D.safe.length) (hU:D.U.length≤1000000) :
  Calls Tryz.prog 52 #[.pointer (some ⟨d,0,none⟩),.int .i64 (i:Int)] w fun e w'=>e = .returned (.agg (secC (zhk D i)).toArray)∧w.grownBy w' none:=by
 obtain ⟨Z,hZ,hzv⟩:=zei
 obtain ⟨EB,hEB⟩:∃ EB,EB=secC (zhk D i):=⟨_,rfl⟩
 have hEl:EB.length=256:=by rw[hEB,zbe,zii h.ok hi]
 have hEo:EB.toArray.all (·.oneCell')=true:=by rw[hEB];exact all_oneCell_toArray (zeh _)
 have hiE:(Tryz.prog.info? 95).map (·.size)=some EB.length:=by rw[hEl];exact zdg
 have hiE2:(Tryz.prog.info? 95).map (·.size)=some EB.toArray.size:=by simpa using hiE
 have hZE:Z.toList.toArray.size=EB.toArray.size:=by simp[hZ,hEl]
 obtain ⟨W1,hW1⟩:∃ W,W=w.alloc (.cells Z 95):=⟨_,rfl⟩
 have hBZ:Blk W1 w.heap.size 95 Z.toList:=by rw[hW1];simpa using Blk.new w 95 Z.toList
 have g1:w.grownBy W1 none:=by rw[hW1];exact zaf (zac _ _) _
 have h1:=h.fr (Fr.none g1 []) (fun _ _ e=>by cases e)
 have hr:=h1.range i hi
 have hc0:=h1.c0
 have hc2:=h1.c2
 have hlk:=h1.und.map.look 75 74 Tryz.underlying75 (.slice none 0 0) (zej W1) i false
 unfold keyN at hlk
 simp only[Bool.false_eq_true,if_false] at hlk
 obtain ⟨n,hn⟩:∃ n,n=D.safe.length:=⟨_,rfl⟩
 rw[← hn] at hc0 hi
 have hg:=zaj (cs:=EB.toArray) (g:=w.heap.size) g1 (Or.inl (Nat.le_refl _))
 obtain ⟨HBZ,HIE,HIE2,HZE,HEO,HW1⟩:=zh6 hBZ hiE hiE2 hZE hEo hW1
 by_cases hm:i∈K.map (·.1)
 ·obtain ⟨v,hv⟩:∃ v,getI K i=some v:=Option.isSome_iff_exists.1 ((zc2 K i).2 hm)
  rw[hv,Option.getD_some] at hlk
  have hrow:=h1.und.row _ (zeg hv)
  simp only at hrow
  have hne:zay D.U i≠[]:=zcw.2 ((h.und.keys i).1 hm)
  have hlen:=zfw D.U i
  obtain ⟨ao,cc,rfl,hR,_⟩:=Rws.own secC hrow (fun x hx=>by rw[zbe];exact (h.ok.inn _ (zc7 hx)).2)
  obtain ⟨j,hj⟩:∃ j,(zay D.U i).length=j+1:=⟨(zay D.U i).length - 1,by have:=List.length_pos_iff.2 hne;omega⟩
  obtain ⟨b,o,rfl,hrr⟩:=hR.at j (by omega)
  have hEB2:secC (zay D.U i)[j]=EB:=by
   rw[hEB]
   unfold zhk
   rw[List.getLast?_eq_getElem?,List.getElem?_eq_getElem (by omega),Option.getD_some]
   congr 2
   omega
  rw[hEB2] at hrr
  rw[hj] at hlk hlen
  have hjl:j<1000000:=by omega
  have hjw:IntKind.i64.wrap (((j+1:Nat):Int) - 1)=(j:Int):=by rw[IntKind.wrap_i64];omega
  have hjw2:IntKind.i64.wrap ((j:Int)+1 - 1)=(j:Int):=by rw[IntKind.wrap_i64];omega
  rw[← hEB]
  clear hBZ hiE hiE2 hZE hEo hW1 hEB hEl h h1 hn hZ g1 hm hv hrow hne hlen hR hEB2 hr hj hU
  go_enter Tryz.func52,Tryz.ntmps52
  go_wp2_with (first
   | rw[← uh HW1]
   | (refine wpList_load_mid rfl 95 _ rfl b (o+j*256) rfl EB _ hrr Tryz.underlying95 rfl (uh HIE) ?_;clear hrr)
   | (have hB9:=uh HBZ;refine wpList_store_row rfl 95 _ _ rfl w.heap.size EB.toArray rfl rfl _ _ hB9 (uh HIE2) (uh HZE) (uh HEO) ?_;clear hB9))
  refine bodyPost_ret (results_cell_row rfl _ _ _ _ _ _ _ rfl ((uh HBZ).row EB) Tryz.underlying95 rfl (uh HIE2)) rfl ?_
  exact ⟨rfl,hg⟩
 ·rw[ziv hm,Option.getD_none] at hlk
  have he:zay D.U i=[]:=Classical.byContradiction fun hne=>hm ((h.und.keys i).2 (zcw.1 hne))
  have hEB2:secC (zie D i)=EB:=by rw[hEB];unfold zhk;rw[he];rfl
  rw[hEB2] at hr
  rw[← hEB]
  clear hBZ hiE hiE2 hZE hEo hW1 hEB hEl h h1 hn hZ g1 hm he hEB2 hU
  go_enter Tryz.func52,Tryz.ntmps52
  go_wp2_with (first
   | rw[← uh HW1]
   | (refine wpList_load_mid rfl 95 _ rfl s (i*256) rfl EB _ hr Tryz.underlying95 rfl (uh HIE) ?_;clear hr)
   | (have hB9:=uh HBZ;refine wpList_store_row rfl 95 _ _ rfl w.heap.size EB.toArray rfl rfl _ _ hB9 (uh HIE2) (uh HZE) (uh HEO) ?_;clear hB9))
  refine bodyPost_ret (results_cell_row rfl _ _ _ _ _ _ _ rfl ((uh HBZ).row EB) Tryz.underlying95 rfl (uh HIE2)) rfl ?_
  exact ⟨rfl,hg⟩
theorem zpl (W:World):(binOp .eql 51 (.slice none 0 0) (.slice none 0 0)).run Tryz.prog W = .ok (.bool true) W:=by kernel_rfl
theorem zq3 (ad:Addr) (n c:Nat) (W:World):(binOp .eql 51 (.slice (some ad) n c) (.slice none 0 0)).run Tryz.prog W = .ok (.bool false) W:=by kernel_rfl
theorem zpm (W:World):(binOp .eql 74 (.slice none 0 0) (.slice none 0 0)).run Tryz.prog W = .ok (.bool true) W:=by kernel_rfl
theorem zq4 (ad:Addr) (n c:Nat) (W:World):(binOp .eql 74 (.slice (some ad) n c) (.slice none 0 0)).run Tryz.prog W = .ok (.bool false) W:=by kernel_rfl
theorem zlr (w:World) (base:Nat) (v0:Value) (n:Nat) (L:List Value) (h:w.ownsRow base 3 1 v0 n L) (h1:∀ u∈L,u.oneCell'=true) (hl:n≤1000000) :
  Calls Tryz.prog 49 #[v0] w fun e w'=>∃ v,e = .returned v∧w'.ownsRow w.heap.size 3 1 v n L∧w.grownBy w' none:=by
 have hn:n=L.length:=by have:=h.1;omega
 subst hn
 obtain ⟨ao,c,rfl,hC,_⟩:=Cel.own h h1
 have h0:=hC.zero
 clear hC h
 obtain ⟨n,hn⟩:∃ n,n=L.length:=⟨_,rfl⟩
 cases ao with
 | none =>
   obtain ⟨h1,h2⟩:=h0.zip rfl
   have h3:L=[]:=List.eq_nil_of_length_eq_zero h1
   subst h3 h2
   have hq:=zpl
   clear hn
   go_enter Tryz.func49,Tryz.ntmps49
   go_wp2
   go_ret
   exact ⟨_,rfl,⟨rfl,Or.inl ⟨rfl,rfl⟩⟩,zac _ _⟩
 | some ad =>
   rw[← hn] at hl ⊢
   have hq:=zq3 ad n c
   obtain ⟨W1,hW1,ho1,g1⟩:∃ Wb,Wb=w.alloc (.cells #[] 3)∧Wb.ownsRow w.heap.size 3 1 (.slice (some ⟨w.heap.size,0,none⟩) 0 0) 0 []∧w.grownBy Wb none :=
    ⟨_,rfl,World.ownsRow_made w #[] 0 (Nat.le_refl _) (by unfold maxLen;omega) rfl,zaf (zac _ _) _⟩
   have hb1:=h0.kept g1
   obtain ⟨HN,HW1⟩:=zh2 hn hW1
   clear hn hW1 h0 h1
   go_enter Tryz.func49,Tryz.ntmps49
   go_wp2_with (rw[← uh HW1];refine zco rfl _ _ _ _ _ _ Tryz.underlying51 zix rfl rfl w.heap.size _ 0 [] rfl ho1 _ _ L hb1 n (uh HN) rfl (by omega) (by unfold maxLen;omega) g1.size ?_;intro v5 w5 ho5 g5;have G5:=hide (zae g1 g5 (fun x e=>Or.inl (ho1.lt x e).1));have HO5:=hide ho5;clear g5 ho5 ho1 hb1)
   go_ret
   exact ⟨_,rfl,by simpa using uh HO5,uh G5⟩
theorem zf6 (w:World) (ao:Option Addr) (c:Nat) (L:List (List UInt8)) (h:Rws w 256 secC ao c L) (h1:∀ s∈L,s.length=256) (hl:L.length≤1000000) :
  Calls Tryz.prog 48 #[.slice ao L.length c] w fun e w'=>∃ v,e = .returned v∧w'.ownsRow w.heap.size 95 256 v L.length (L.flatMap secC)∧w.grownBy w' none:=by
 obtain ⟨n,hn⟩:∃ n,n=L.length:=⟨_,rfl⟩
 cases ao with
 | none =>
   obtain ⟨h1,h2⟩:=h.zip rfl
   have h3:L=[]:=List.eq_nil_of_length_eq_zero h1
   subst h3 h2
   have hq:=zpm
   clear hn
   go_enter Tryz.func48,Tryz.ntmps48
   go_wp2
   go_ret
   exact ⟨_,rfl,⟨rfl,Or.inl ⟨rfl,rfl⟩⟩,zac _ _⟩
 | some ad =>
   rw[← hn] at hl ⊢
   have hq:=zq4 ad n c
   obtain ⟨W1,hW1,ho1,g1⟩:∃ Wb,Wb=w.alloc (.cells #[] 95)∧Wb.ownsRow w.heap.size 95 256 (.slice (some ⟨w.heap.size,0,none⟩) 0 0) 0 []∧w.grownBy Wb none :=
    ⟨_,rfl,World.ownsRow_made w #[] 0 (Nat.le_refl _) (by unfold maxLen;omega) rfl,zaf (zac _ _) _⟩
   have hb1:=h.kept g1
   obtain ⟨i0,hi,hz0,hz1,hz2⟩:=info_parts zfo
   obtain ⟨HN,HW1,HI,HZ⟩:=zh4 hn hW1 hi hz0
   clear hn hW1 h hi hz0
   go_enter Tryz.func48,Tryz.ntmps48
   go_wp2_with (rw[← uh HW1];refine wpList_plain rfl fun K9 hK9 => ?_;refine zb8 _ _ 74 95 rfl i0 _ 256 256 Tryz.underlying74 (uh HI) (uh HZ) hz1 hz2 (by rw[show Value.cells (.agg (secC zsec).toArray)=(secC zsec).toArray from rfl,List.size_toArray,zbe,zea]) (by decide) secC zeh w.heap.size _ [] L (fun x hx=>by rw[zbe];exact h1 x hx) rfl ho1 _ n c rfl (uh HN) hb1 (by rw[← uh HN,List.length_nil];omega) (by rw[← uh HN,List.length_nil];omega) g1.size ?_;intro v5 w5 ho5 g5;refine hK9 _ _ ?_;clear hK9 K9;have G5:=hide (zae g1 g5 (fun x e=>Or.inl (ho1.lt x e).1));have HO5:=hide ho5;clear g5 ho5 ho1 hb1)
   go_ret
   exact ⟨_,rfl,by rw[uh HN];simpa using uh HO5,uh G5⟩
end Go.Proofs.YtoilcpdhhlcidaaGreatDoor
