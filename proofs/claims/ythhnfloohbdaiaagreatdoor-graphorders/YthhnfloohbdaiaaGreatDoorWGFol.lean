/- Lemmas. -/
import Derived.Test.YthhnfloohbdaiaaGreatDoorGBuild
import Derived.Maps.AppendAt
import Derived.Deep.LoopGhost
import Derived.Test.YthhnfloohbdaiaaGreatDoorGOne
import Derived.Deep.DeepCutAuto
namespace Go.Proofs.YthhnfloohbdaiaaGreatDoor
open Go.RowKit
structure BuiltS (w w' : World) (sb mb:Nat) (v1 v2 vi:Value) (S:List ObE) (I:List (List UInt8)):Prop where
 set:SetAt w w' sb mb S
 doc:RSet w' w.heap.size v1 v2 S
 own:w'.ownsRow w.heap.size 33 32 vi I.length (I.flatMap (·.map bv))
 wid:∀ x∈I,x.length=32
 few:I.length≤24
 sew:S.length≤24
 g:w.grownBy w' none
def zyv (w w' : World) (e:Ending):Prop:=∃ (sb mb:Nat) (a1 a2 ia:Option Addr) (n1 n2 c1 c2 ic:Nat) (S:List ObE) (I:List (List UInt8)),e = .returned (.tuple #[.pointer (some ⟨sb,0,none⟩),.agg #[.slice a1 n1 c1,.slice a2 n2 c2],.slice ia I.length ic])∧BuiltS w w' sb mb (.slice a1 n1 c1) (.slice a2 n2 c2) (.slice ia I.length ic) S I
structure Gk (w wr:World) (sb mb rb:Nat) (v1 v2:Value) (S:List ObE) (V:List (Value × List (List UInt8))):Prop where
 s:SetAt w wr sb mb S
 d:RSet wr w.heap.size v1 v2 S
 b:Blk wr rb 28 [v1,v2]
 rows:∀ p∈V,Nam wr w.heap.size p.1 p.2
 g:w.grownBy wr none
theorem Gk.none {w wr a:World} {sb mb rb:Nat} {v1 v2:Value} {S:List ObE} {V:List (Value × List (List UInt8))} (k:Gk w wr sb mb rb v1 v2 S V) (g:wr.grownBy a Option.none):Gk w a sb mb rb v1 v2 S V :=
 ⟨k.s.none g,k.d.kept g,k.b.kept g (by simp),fun p hp=>(k.rows p hp).none g,tn k.g g⟩
theorem Gk.add {w wr:World} {sb mb rb:Nat} {v1 v2:Value} {S:List ObE} {V:List (Value × List (List UInt8))} {v:Value} {X:List (List UInt8)} (k:Gk w wr sb mb rb v1 v2 S V) (n:Nam wr w.heap.size v X):Gk w wr sb mb rb v1 v2 S ((v,X)::V) :=
 ⟨k.s,k.d,k.b,fun p hp=>by rcases List.mem_cons.1 hp with rfl | hp;exact n;exact k.rows p hp,k.g⟩
theorem BuiltS.gk {w w1 W2:World} {sb mb:Nat} {v1 v2 vi:Value} {S:List ObE} {I:List (List UInt8)} (h:BuiltS w w1 sb mb v1 v2 vi S I) (hB:Blk W2 w1.heap.size 28 [v1,v2]) (g:w1.grownBy W2 Option.none):Gk w W2 sb mb w1.heap.size v1 v2 S [(vi,I)] :=
 ⟨h.set.none g,h.doc.kept g,hB,fun p hp=>by rw[List.mem_singleton.1 hp];exact (⟨h.own,h.wid⟩:Nam w1 w.heap.size vi I).none g,tn h.g g⟩
structure KyB (x:List UInt8) (KB:List Value):Prop where
 e:KB=x.map bv
 key:keyV x = .agg KB.toArray
 len:KB.length=32
 info:(Tryz.prog.info? 33).map (·.size)=some KB.length
 info2:(Tryz.prog.info? 33).map (·.size)=some KB.toArray.size
 one:KB.toArray.all (·.oneCell')=true
theorem kyb (x:List UInt8) (hx:x.length=32):∃ KB,KyB x KB :=
 ⟨x.map bv,rfl,rfl,by simp[hx],by rw[List.length_map,hx];exact zar,by rw[List.size_toArray,List.length_map,hx];exact zar,all_oneCell_toArray (za4 _)⟩
theorem KyB.zed {x:List UInt8} {KB:List Value} (h:KyB x KB) {Z:Array Value} (hZ:Z.size=32):Z.toList.toArray.size=KB.toArray.size:=by simp[hZ,h.len]
theorem Pk.one {w w4 wr a:World} {sb mb tb nb:Nat} {S S' H:List ObE} {V:List (Value × List (List UInt8))} (k:Pk w w4 wr sb mb tb nb S H V) (h:SetAt w a sb mb S') (g:wr.grownBy a (some mb)):Pk w w4 a sb mb tb nb S' H V :=
 ⟨h,k.h.other k.s g (fun e=>k.ne e.symm),k.ne,fun p hp=>(k.rows p hp).setk k.s g,zac k.g g (fun x e=>by cases e;exact Or.inl k.s.nm),k.wn⟩
def metB (K:List (List UInt8)):List (List UInt8 × Value):=K.map fun x=>(x,.bool true)
theorem zlx (K:List (List UInt8)):(metB K).map (·.1)=K:=by
 unfold metB
 rw[List.map_map]
 exact List.map_id K
theorem zv3 (K:List (List UInt8)) (x:List UInt8) (h:x∉K):putK (metB K) x (.bool true)=metB (K++[x]):=by
 unfold putK
 rw[zlx,if_neg h]
 simp[metB]
theorem zv4 (K:List (List UInt8)) (x:List UInt8) (h:x∉K):(getK (metB K) x).getD (.bool false) = .bool false:=by
 rw[zli (by rw[zlx];exact h)]
 rfl
theorem zti (w:World):(zeroValue 4).run Tryz.prog w = .ok (.bool false) w:=by kernel_rfl
theorem MapAt.unmet {w:World} {m:Nat} {K:List (List UInt8)} (h:MapAt w m (metB K)) (x:List UInt8) (hx:x.length=32) (hn:x∉K):(Instr.lookup 67 (.map (some m)) (keyV x) false).run Tryz.prog w = .ok (.bool false) w:=by
 rw[h.look 67 4 Tryz.underlying67 _ (zti w) x hx false,zv4 K x hn]
 rfl
theorem MapAt.metnow {w:World} {m:Nat} {K:List (List UInt8)} (h:MapAt w m (metB K)) (x:List UInt8) (hx:x.length=32) (hn:x∉K) :
  ∃ w',(Instr.mapUpdate 67 (.map (some m)) (keyV x) (.bool true)).run Tryz.prog w = .ok () w'∧MapAt w' m (metB (K++[x]))∧w.grownBy w' (some m):=by
 obtain ⟨w',h1,h2,h3,_⟩:=h.store 67 4 Tryz.underlying67 x hx (.bool true)
 rw[zv3 K x hn] at h2
 exact ⟨w',h1,h2,h3⟩
theorem MapAt.fresh (w:World):(Instr.makeMap 67 Option.none).run Tryz.prog w = .ok (.map (some w.heap.size)) (w.alloc (.map #[] 0)):=run_makeMap _ w
theorem Gk.other {w wr wd:World} {sb mb rb mp:Nat} {v1 v2:Value} {S:List ObE} {V:List (Value × List (List UInt8))} {K:List (List UInt8 × Value)} (k:Gk w wr sb mb rb v1 v2 S V) (hm:MapAt wr mp K) (hne:mp≠mb) (hb:w.heap.size≤mp) (g:wr.grownBy wd (some mp)):Gk w wd sb mb rb v1 v2 S V :=
 ⟨k.s.kept g (fun e=>hm.blk k.s.blk (by injection e with e;exact e.symm)) (fun e=>hne (by injection e with e;exact e.symm)) (fun x e=>by cases e;exact hm.typ),
 ⟨zke k.d.ids hm g,zke k.d.obs hm g⟩,k.b.kept g (fun e=>hm.blk k.b (by injection e with e;exact e.symm)),fun p hp=>⟨zke (k.rows p hp).own hm g,(k.rows p hp).wid⟩,
 zac k.g g (fun x e=>by cases e;exact Or.inl hb)⟩
theorem zxz {S:List ObE} {R:List (List UInt8)} {x:List UInt8} (h:Rch (nxS S) R x):x∈zkk (fun e=>zbj e.k e.d) S R:=by
 cases h with
 | root hm=>exact List.mem_append_left _ hm
 | next _ hy=>exact zsy S R _ _ hy
structure RchI (S:List ObE) (R O N X:List (List UInt8)) (P j:Nat):Prop where
 rnd:Rnd (nxS S) R O (N.drop j) X
 ris:Ris O
 more:P<O.length∨X=[]
 le:P≤O.length
 len:X.length≤33*O.length
theorem RchI.few {S:List ObE} {R O N X:List (List UInt8)} {P j:Nat} (h:RchI S R O N X P j):O.length≤(zkk (fun e=>zbj e.k e.d) S R).length :=
 zbl h.ris.nodup (fun x hx=>zxz (h.rnd.met x hx))
theorem RchI.skip {S:List ObE} {R O N X:List (List UInt8)} {P j:Nat} (h:RchI S R O N X P j) (hj:j<N.length) (hx:N[j]∈O):RchI S R O N X P (j+1) :=
 ⟨by have:=h.rnd;rw[List.drop_eq_getElem_cons hj] at this;exact this.skip hx,h.ris,h.more,h.le,h.len⟩
theorem RchI.take {S:List ObE} {R O N X:List (List UInt8)} {P j k:Nat} (h:RchI S R O N X P j) (hj:j<N.length) (hx:N[j]∉O) (h1:∀ z∈O.take k,za6 z N[j]=true) (h2:∀ y,O[k]? = some y→za6 y N[j]=false):RchI S R (O.take k++N[j]::O.drop k) N (X++nxS S N[j]) P (j+1):=by
 have hl:(O.take k++N[j]::O.drop k).length=O.length+1:=by
  have:=congrArg List.length (List.take_append_drop k O)
  simp only[List.length_append,List.length_cons] at this ⊢
  omega
 refine ⟨?_,zve h.ris hx h1 h2,Or.inl (by rw[hl];have:=h.le;omega),by rw[hl];have:=h.le;omega,?_⟩
 ·have:=h.rnd
  rw[List.drop_eq_getElem_cons hj] at this
  exact this.take (fun y=>zvf) rfl
 ·rw[hl,List.length_append]
  have:=h.len
  have:=(zkl S N[j]).1
  omega
theorem zyw {x y:List UInt8} {XB YB:List Value} (hx:KyB x XB) (hy:KyB y YB) (lx:x.length=32) (ly:y.length=32) (W:World):(binOp .eql 33 (.agg XB.toArray) (.agg YB.toArray)).run Tryz.prog W = .ok (.bool (x == y)) W:=by
 rw[hx.e,hy.e]
 exact zwi W x y lx ly
theorem zqj {w wr:World} {sb mb rb:Nat} {v1 v2:Value} {S:List ObE} {V:List (Value × List (List UInt8))} (k:Gk w wr sb mb rb v1 v2 S V) {a b:List UInt8} {AB BB:List Value} (ha:KyB a AB) (hb:KyB b BB) (la:a.length=32) (lb:b.length=32) (V' : World) (g:wr.grownBy V' none) :
  Calls Tryz.prog 26 #[.pointer (some ⟨sb,0,none⟩),.agg AB.toArray,.agg BB.toArray] V' fun e w'=>∃ y,e = .returned (.bool y)∧(y=true↔Rch (prS S) [a] b)∧V'.grownBy w' none:=by
 rw[← ha.key,← hb.key]
 exact zix V' (some ⟨sb,0,none⟩) S (k.s.none g).sat a b la lb
theorem ztj {T:List (List UInt8)} {k:Nat} (h:k<T.length) {b:List UInt8} : b∈T.take (k+1)↔b∈T.take k∨T[k]=b:=by
 rw[List.take_succ_eq_append_getElem h,List.mem_append,List.mem_singleton]
 constructor
 ·rintro (h | h)
  ·exact Or.inl h
  ·exact Or.inr h.symm
 ·rintro (h | h)
  ·exact Or.inl h
  ·exact Or.inr h.symm
end Go.Proofs.YthhnfloohbdaiaaGreatDoor
