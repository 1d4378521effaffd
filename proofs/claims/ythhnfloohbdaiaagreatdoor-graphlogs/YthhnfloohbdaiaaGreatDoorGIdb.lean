/- Lemmas. -/
import Derived.Maps.AppendAt
import Derived.Test.YthhnfloohbdaiaaGreatDoorGBuild
import Derived.Deep.LoopGhost
namespace Go.Proofs.YthhnfloohbdaiaaGreatDoor
open Go.RowKit
theorem zbx {w:World} {ops:Array Oper} {rest:List Oper} {o:Oper} {a:Act} {Q:Exit→Act→World→Prop} (hgd:o.guard=none) (s x:Operand)
  (ho:o.op = .call { callee := .builtin .append,args := #[s,x],argTypes := #[25,25] })
  (base:Nat) (v:Value) (L M:List (List UInt8)) (hs:a.eval s=v) (hown:Stg w base v L) (xo:Option Addr) (m c:Nat) (hx:a.eval x = .slice xo m c) (hm:m=M.length) (hM:Rws w 1 stR xo c M) (hn:L.length+M.length≤1000000000) (hbase:base≤w.heap.size)
  (h:∀ v' w',Stg w' base v' (L++M)→w.grownBy w' v.ownBlock→(v'.ownBlock=v.ownBlock∨v'.ownBlock=some w.heap.size)→wpList Tryz.prog ops Q rest (a.put o.dst v') w'):wpList Tryz.prog ops Q (o::rest) a w:=by
 obtain ⟨i0,hi,hz0,hz1,hz2⟩:=info_parts zkc
 subst hm
 cases xo with
 | none =>
  obtain ⟨h1,h2⟩:=hM.zip rfl
  have h0:M=[]:=List.eq_nil_of_length_eq_zero h1
  subst h0
  subst h2
  exact wpList_append_own_none hgd s x 25 ho base 9 i0 1 Tryz.underlying25 hi v L.length (L.map stv) hs hown hx (h v w (by simpa using hown) (zab _ _) (Or.inl rfl))
 | some ad =>
  have hsp:=hM.spot ad rfl
  have hr:=hM.row ad rfl
  obtain ⟨b,p,sp⟩:=ad
  simp only at hsp hr
  subst hsp
  refine wpList_append_own_at w hgd s x 25 ho base 9 i0 (.string ⟨#[]⟩) 1 16 Tryz.underlying25 hi hz0 hz1 hz2 rfl (by decide) v L.length (L.map stv) hs hown ⟨b,p,none⟩ M.length c (M.map stv) hx (by simp) ?_ (zxc M) (by unfold maxLen;omega) (by omega) hbase (fun v' w' q1 q2 _ q3=>h v' w' (by unfold Stg;simpa using q1) q2 q3)
  intro j u hu
  obtain ⟨hj,hu2⟩:=List.getElem?_eq_some_iff.1 hu
  have hjl:j<M.length:=by simpa using hj
  have h9:=hr j hjl 0 (stv M[j]) rfl
  rw[Addr.add_lit]
  have e:u=stv M[j]:=by rw[← hu2];simp
  rw[e]
  simpa using h9
theorem zyj {S:List ObE} {R:List (List UInt8)} {x:List UInt8} (h:Rch (nxS S) R x):x∈zhh (fun e=>zbm e.k e.d) S R:=by
 cases h with
 | root hm=>exact List.mem_append_left _ hm
 | next _ hy=>exact zs1 S R _ _ hy
structure RchI (S:List ObE) (R O N X:List (List UInt8)) (P j:Nat):Prop where
 rnd:Rnd (nxS S) R O (N.drop j) X
 ris:Ris O
 more:P<O.length∨X=[]
 le:P≤O.length
 len:X.length≤33*O.length
theorem RchI.few {S:List ObE} {R O N X:List (List UInt8)} {P j:Nat} (h:RchI S R O N X P j):O.length≤(zhh (fun e=>zbm e.k e.d) S R).length :=
 zbn h.ris.nodup (fun x hx=>zyj (h.rnd.met x hx))
theorem RchI.skip {S:List ObE} {R O N X:List (List UInt8)} {P j:Nat} (h:RchI S R O N X P j) (hj:j<N.length) (hx:N[j]∈O):RchI S R O N X P (j+1) :=
 ⟨by have:=h.rnd;rw[List.drop_eq_getElem_cons hj] at this;exact this.skip hx,h.ris,h.more,h.le,h.len⟩
theorem RchI.take {S:List ObE} {R O N X:List (List UInt8)} {P j k:Nat} (h:RchI S R O N X P j) (hj:j<N.length) (hx:N[j]∉O) (h1:∀ z∈O.take k,za8 z N[j]=true) (h2:∀ y,O[k]? = some y→za8 y N[j]=false):RchI S R (O.take k++N[j]::O.drop k) N (X++nxS S N[j]) P (j+1):=by
 have hl:(O.take k++N[j]::O.drop k).length=O.length+1:=by
  have:=congrArg List.length (List.take_append_drop k O)
  simp only[List.length_append,List.length_cons] at this ⊢
  omega
 refine ⟨?_,zvw h.ris hx h1 h2,Or.inl (by rw[hl];have:=h.le;omega),by rw[hl];have:=h.le;omega,?_⟩
 ·have:=h.rnd
  rw[List.drop_eq_getElem_cons hj] at this
  exact this.take (fun y=>zvx) rfl
 ·rw[hl,List.length_append]
  have:=h.len
  have:=(zks S N[j]).1
  omega
structure BuiltS (w w' : World) (sb mb:Nat) (v1 v2 vi:Value) (S:List ObE) (I:List (List UInt8)):Prop where
 set:SetAt w w' sb mb S
 doc:RSet w' w.heap.size v1 v2 S
 own:w'.ownsRow w.heap.size 33 32 vi I.length (I.flatMap (·.map bv))
 wid:∀ x∈I,x.length=32
 few:I.length≤24
 sew:S.length≤24
 g:w.grownBy w' none
def zzd (w w' : World) (e:Ending):Prop:=∃ (sb mb:Nat) (a1 a2 ia:Option Addr) (n1 n2 c1 c2 ic:Nat) (S:List ObE) (I:List (List UInt8)),e = .returned (.tuple #[.pointer (some ⟨sb,0,none⟩),.agg #[.slice a1 n1 c1,.slice a2 n2 c2],.slice ia I.length ic])∧BuiltS w w' sb mb (.slice a1 n1 c1) (.slice a2 n2 c2) (.slice ia I.length ic) S I
structure Gk (w wr:World) (sb mb rb:Nat) (v1 v2:Value) (S:List ObE) (V:List (Value × List (List UInt8))):Prop where
 s:SetAt w wr sb mb S
 d:RSet wr w.heap.size v1 v2 S
 b:Blk wr rb 28 [v1,v2]
 rows:∀ p∈V,Nam wr w.heap.size p.1 p.2
 g:w.grownBy wr none
theorem Gk.none {w wr a:World} {sb mb rb:Nat} {v1 v2:Value} {S:List ObE} {V:List (Value × List (List UInt8))} (k:Gk w wr sb mb rb v1 v2 S V) (g:wr.grownBy a Option.none):Gk w a sb mb rb v1 v2 S V :=
 ⟨k.s.none g,k.d.kept g,k.b.kept g (by simp),fun p hp=>(k.rows p hp).none g,tn k.g g⟩
theorem Gk.add {w wr:World} {sb mb rb:Nat} {v1 v2:Value} {S:List ObE} {V:List (Value × List (List UInt8))} {v:Value} {X:List (List UInt8)} (k:Gk w wr sb mb rb v1 v2 S V) (n:Nam wr w.heap.size v X):Gk w wr sb mb rb v1 v2 S ((v,X)::V) :=
 ⟨k.s,k.d,k.b,fun p hp=>by rcases List.mem_cons.1 hp with rfl | hp;exact n;exact k.rows p hp,k.g⟩
theorem BuiltS.gk {w w1 W2:World} {sb mb:Nat} {v1 v2 vi:Value} {S:List ObE} {I:List (List UInt8)} (h:BuiltS w w1 sb mb v1 v2 vi S I) (hB:Blk W2 w1.heap.size 28 [v1,v2]) (g:w1.grownBy W2 Option.none):Gk w W2 sb mb w1.heap.size v1 v2 S [(vi,I)] :=
 ⟨h.set.none g,h.doc.kept g,hB,fun p hp=>by rw[List.mem_singleton.1 hp];exact (⟨h.own,h.wid⟩:Nam w1 w.heap.size vi I).none g,tn h.g g⟩
structure KyB (x:List UInt8) (KB:List Value):Prop where
 e:KB=x.map bv
 key:keyV x = .agg KB.toArray
 len:KB.length=32
 info:(Tryz.prog.info? 33).map (·.size)=some KB.length
 info2:(Tryz.prog.info? 33).map (·.size)=some KB.toArray.size
 one:KB.toArray.all (·.oneCell')=true
theorem kyb (x:List UInt8) (hx:x.length=32):∃ KB,KyB x KB :=
 ⟨x.map bv,rfl,rfl,by simp[hx],by rw[List.length_map,hx];exact zat,by rw[List.size_toArray,List.length_map,hx];exact zat,all_oneCell_toArray (za6 _)⟩
theorem KyB.zed {x:List UInt8} {KB:List Value} (h:KyB x KB) {Z:Array Value} (hZ:Z.size=32):Z.toList.toArray.size=KB.toArray.size:=by simp[hZ,h.len]
theorem Pk.one {w w4 wr a:World} {sb mb tb nb:Nat} {S S' H:List ObE} {V:List (Value × List (List UInt8))} (k:Pk w w4 wr sb mb tb nb S H V) (h:SetAt w a sb mb S') (g:wr.grownBy a (some mb)):Pk w w4 a sb mb tb nb S' H V :=
 ⟨h,k.h.other k.s g (fun e=>k.ne e.symm),k.ne,fun p hp=>(k.rows p hp).setk k.s g,zae k.g g (fun x e=>by cases e;exact Or.inl k.s.nm),k.wn⟩
end Go.Proofs.YthhnfloohbdaiaaGreatDoor
