/- Lemmas. -/
import Derived.Test.YthhnfloohbdaiaaGreatDoorGBuild
import Derived.Maps.AppendAt
import Derived.Deep.LoopGhost
namespace Go.Proofs.YthhnfloohbdaiaaGreatDoor
open Go.RowKit
structure BuiltS (w w' : World) (sb mb:Nat) (v1 v2 vi:Value) (S:List ObE) (I:List (List UInt8)):Prop where
 set:SetAt w w' sb mb S
 doc:RSet w' w.heap.size v1 v2 S
 own:w'.ownsRow w.heap.size 33 32 vi I.length (I.flatMap (·.map bv))
 wid:∀ x∈I,x.length=32
 few:I.length≤24
 sew:S.length≤24
 g:w.grownBy w' none
def zyz (w w' : World) (e:Ending):Prop:=∃ (sb mb:Nat) (a1 a2 ia:Option Addr) (n1 n2 c1 c2 ic:Nat) (S:List ObE) (I:List (List UInt8)),e = .returned (.tuple #[.pointer (some ⟨sb,0,none⟩),.agg #[.slice a1 n1 c1,.slice a2 n2 c2],.slice ia I.length ic])∧BuiltS w w' sb mb (.slice a1 n1 c1) (.slice a2 n2 c2) (.slice ia I.length ic) S I
structure Gk (w wr:World) (sb mb rb:Nat) (v1 v2:Value) (S:List ObE) (V:List (Value × List (List UInt8))):Prop where
 s:SetAt w wr sb mb S
 d:RSet wr w.heap.size v1 v2 S
 b:Blk wr rb 28 [v1,v2]
 rows:∀ p∈V,Nam wr w.heap.size p.1 p.2
 g:w.grownBy wr none
theorem Gk.none {w wr a:World} {sb mb rb:Nat} {v1 v2:Value} {S:List ObE} {V:List (Value × List (List UInt8))} (k:Gk w wr sb mb rb v1 v2 S V) (g:wr.grownBy a Option.none):Gk w a sb mb rb v1 v2 S V :=
 ⟨k.s.none g,k.d.kept g,k.b.kept g (by simp),fun p hp=>(k.rows p hp).none g,tn k.g g⟩
theorem Gk.add {w wr:World} {sb mb rb:Nat} {v1 v2:Value} {S:List ObE} {V:List (Value × List (List UInt8))} {v:Value} {X:List (List UInt8)} (k:Gk w wr sb mb rb v1 v2 S V) (n:Nam wr w.heap.size v X):Gk w wr sb mb rb v1 v2 S ((v,X)::V) :=
 ⟨k.s,k.d,k.b,fun p hp=>by rcases List.mem_cons.1 hp with rfl | hp;exact n;exact k.rows p hp,k.g⟩
theorem BuiltS.gk {w w1 W2:World} {sb mb:Nat} {v1 v2 vi:Value} {S:List ObE} {I:List (List UInt8)} (h:BuiltS w w1 sb mb v1 v2 vi S I) (hB:Blk W2 w1.heap.size 28 [v1,v2]) (g:w1.grownBy W2 Option.none):Gk w W2 sb mb w1.heap.size v1 v2 S [(vi,I)] :=
 ⟨h.set.none g,h.doc.kept g,hB,fun p hp=>by rw[List.mem_singleton.1 hp];exact (⟨h.own,h.wid⟩:Nam w1 w.heap.size vi I).none g,tn h.g g⟩
structure KyB (x:List UInt8) (KB:List Value):Prop where
 e:KB=x.map bv
 key:keyV x = .agg KB.toArray
 len:KB.length=32
 info:(Tryz.prog.info? 33).map (·.size)=some KB.length
 info2:(Tryz.prog.info? 33).map (·.size)=some KB.toArray.size
 one:KB.toArray.all (·.oneCell')=true
theorem kyb (x:List UInt8) (hx:x.length=32):∃ KB,KyB x KB :=
 ⟨x.map bv,rfl,rfl,by simp[hx],by rw[List.length_map,hx];exact zar,by rw[List.size_toArray,List.length_map,hx];exact zar,all_oneCell_toArray (za4 _)⟩
theorem Pk.one {w w4 wr a:World} {sb mb tb nb:Nat} {S S' H:List ObE} {V:List (Value × List (List UInt8))} (k:Pk w w4 wr sb mb tb nb S H V) (h:SetAt w a sb mb S') (g:wr.grownBy a (some mb)):Pk w w4 a sb mb tb nb S' H V :=
 ⟨h,k.h.other k.s g (fun e=>k.ne e.symm),k.ne,fun p hp=>(k.rows p hp).setk k.s g,zad k.g g (fun x e=>by cases e;exact Or.inl k.s.nm),k.wn⟩
theorem zne {S:List ObE} {R:List (List UInt8)} {x:List UInt8} (h:Rch (nxS S) R x):x∈zkp (fun e=>zbh e.k e.d) S R:=by
 cases h with
 | root hm=>exact List.mem_append_left _ hm
 | next _ hy=>exact zs2 S R _ _ hy
structure RchI (S:List ObE) (R O N X:List (List UInt8)) (P j:Nat):Prop where
 rnd:Rnd (nxS S) R O (N.drop j) X
 ris:Ris O
 more:P<O.length∨X=[]
 le:P≤O.length
 len:X.length≤33*O.length
theorem RchI.few {S:List ObE} {R O N X:List (List UInt8)} {P j:Nat} (h:RchI S R O N X P j):O.length≤(zkp (fun e=>zbh e.k e.d) S R).length :=
 zbk h.ris.nodup (fun x hx=>zne (h.rnd.met x hx))
theorem RchI.skip {S:List ObE} {R O N X:List (List UInt8)} {P j:Nat} (h:RchI S R O N X P j) (hj:j<N.length) (hx:N[j]∈O):RchI S R O N X P (j+1) :=
 ⟨by have:=h.rnd;rw[List.drop_eq_getElem_cons hj] at this;exact this.skip hx,h.ris,h.more,h.le,h.len⟩
theorem RchI.take {S:List ObE} {R O N X:List (List UInt8)} {P j k:Nat} (h:RchI S R O N X P j) (hj:j<N.length) (hx:N[j]∉O) (h1:∀ z∈O.take k,za7 z N[j]=true) (h2:∀ y,O[k]? = some y→za7 y N[j]=false):RchI S R (O.take k++N[j]::O.drop k) N (X++nxS S N[j]) P (j+1):=by
 have hl:(O.take k++N[j]::O.drop k).length=O.length+1:=by
  have:=congrArg List.length (List.take_append_drop k O)
  simp only[List.length_append,List.length_cons] at this ⊢
  omega
 refine ⟨?_,zvh h.ris hx h1 h2,Or.inl (by rw[hl];have:=h.le;omega),by rw[hl];have:=h.le;omega,?_⟩
 ·have:=h.rnd
  rw[List.drop_eq_getElem_cons hj] at this
  exact this.take (fun y=>zvi) rfl
 ·rw[hl,List.length_append]
  have:=h.len
  have:=(zhq S N[j]).1
  omega
end Go.Proofs.YthhnfloohbdaiaaGreatDoor
