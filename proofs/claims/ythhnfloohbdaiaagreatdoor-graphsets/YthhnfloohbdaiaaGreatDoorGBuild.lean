/- Lemmas. -/
import Derived.Test.YthhnfloohbdaiaaGreatDoorRGPut
import Derived.Test.YthhnfloohbdaiaaGreatDoorGMade
import Derived.Test.YthhnfloohbdaiaaGreatDoorLOwn
namespace Go.Proofs.YthhnfloohbdaiaaGreatDoor
open Go.RowKit
set_option maxRecDepth 100000
def putC (S:List ObE) (k:Int) (d:List UInt8):List ObE:=if zaw k d=0 then putS S ⟨shaL (putL k d),k,d⟩ else S
theorem zv5 (S:List ObE) (k:Int) (d:List UInt8):(putC S k d).length≤S.length+1:=by
 unfold putC
 split
 ·exact zn5 _ _
 ·omega
theorem zv6 (u w:World) (sb mb:Nat) (S:List ObE) (h:SetAt u w sb mb S) (k:Int) (ao:Option Addr) (c:Nat) (d:List UInt8) (hd:Dat w ao c d) (hf:S.length<1000) (hT:Tabs w) :
  Calls Tryz.prog 32 #[.pointer (some ⟨sb,0,none⟩),.agg #[.int .i64 k,.slice ao d.length c]] w fun e w'=>∃ (x:List UInt8) (y:Int),e = .returned (.tuple #[keyV x,.int .i64 y])∧x.length=32∧y=zaw k d∧(y=0→x=shaL (putL k d))∧SetAt u w' sb mb (putC S k d)∧w.grownBy w' (some mb):=by
 unfold putC
 by_cases hc:zaw k d=0
 ·refine (zm5 u w sb mb S h k ao c d hd hc hf hT).mono ?_
  rintro e w' ⟨rfl,h1,h2⟩
  exact ⟨_,0,rfl,zba _,hc.symm,fun _=>rfl,by rw[if_pos hc];exact h1,h2⟩
 ·refine (zvq u w sb mb S h k ao c d hd.bts hc).mono ?_
  rintro e w' ⟨rfl,h2⟩
  exact ⟨_,_,rfl,rfl,rfl,fun e=>absurd e hc,by rw[if_neg hc];exact h.none h2,zav _ h2⟩
theorem ztn (w:World) (base:Nat) (v1 v2:Value) (S:List ObE) (h:RSet w base v1 v2 S) (hf:S.length≤1000) (hb:base≤w.heap.size) (k:Int) (d:List UInt8) (hd:d.length≤100000) :
  Calls Tryz.prog 36 #[.agg #[v1,v2],.agg #[.int .i64 k,.string (str d)]] w fun e w'=>∃ (a1 a2:Option Addr) (n1 n2 c1 c2:Nat) (x:List UInt8),e = .returned (.tuple #[.agg #[.slice a1 n1 c1,.slice a2 n2 c2],.string (str x),.int .i64 (zaw k d)])∧(zaw k d=0→x=shaL (putL k d))∧RSet w' base (.slice a1 n1 c1) (.slice a2 n2 c2) (putC S k d)∧w.grownBy w' none:=by
 unfold putC
 by_cases hc:zaw k d=0
 ·refine (zvl w base v1 v2 S h hf hb k d hd hc).mono ?_
  rintro e w' ⟨u1,u2,rfl,h1,h2⟩
  obtain ⟨a1,c1,rfl⟩:=zbg h1.ids
  obtain ⟨a2,c2,rfl⟩:=zbg h1.obs
  exact ⟨a1,a2,_,_,c1,c2,_,by rw[hc],fun _=>rfl,by rw[if_pos hc];exact h1,h2⟩
 ·obtain ⟨a1,c1,rfl⟩:=zbg h.ids
  obtain ⟨a2,c2,rfl⟩:=zbg h.obs
  refine (zsu w a1 a2 _ _ c1 c2 k d hd hc).mono ?_
  rintro e w' ⟨rfl,h2⟩
  exact ⟨a1,a2,_,_,c1,c2,[],rfl,fun e=>absurd e hc,by rw[if_neg hc];exact h.kept h2,h2⟩
theorem zgo {u w a:World} {sb mb base n k:Nat} {S:List ObE} {t:TypeId} {v:Value} {xs:List Value} (h:w.ownsRow base t k v n xs) (s:SetAt u w sb mb S) (g:w.grownBy a (some mb)):a.ownsRow base t k v n xs:=by
 obtain ⟨R,m1,_⟩:=s.map
 refine h.kept g ?_
 by_cases e:v.ownBlock=none
 ·exact Or.inl e
 ·exact Or.inr fun e2=>m1.own h e2.symm
theorem RSet.setk {u w a:World} {sb mb base:Nat} {S T:List ObE} {v1 v2:Value} (h:RSet w base v1 v2 T) (s:SetAt u w sb mb S) (g:w.grownBy a (some mb)):RSet a base v1 v2 T:=⟨zgo h.ids s g,zgo h.obs s g⟩
theorem MadeG.setk {u w a:World} {sb mb base:Nat} {S:List ObE} {v1 v2:Value} {R:List ObjR} (h:MadeG w base v1 v2 R) (s:SetAt u w sb mb S) (g:w.grownBy a (some mb)):MadeG a base v1 v2 R :=
 ⟨⟨zgo h.objs.own s g,fun r hr=>(h.objs.bts r hr).kept g (fun x e ad e2 e3=>by cases e;exact s.typ (by rw[← e3];exact h.objs.typ r hr ad e2)),fun r hr ad e=>(h.objs.typ r hr ad e).kept g (fun e2=>by injection e2 with e2;exact s.typ (by rw[← e2];exact h.objs.typ r hr ad e))⟩,zgo h.ids s g,h.small⟩
theorem Blk.setk {u w a:World} {sb mb b:Nat} {S:List ObE} {t:TypeId} {cs:List Value} (h:Blk w b t cs) (s:SetAt u w sb mb S) (g:w.grownBy a (some mb)):Blk a b t cs:=by
 obtain ⟨R,m1,_⟩:=s.map
 exact h.kept g (fun e=>m1.blk h (by injection e with e;exact e.symm))
structure Nam (w:World) (base:Nat) (v:Value) (X:List (List UInt8)):Prop where
 own:w.ownsRow base 33 32 v X.length (X.flatMap (·.map bv))
 wid:∀ x∈X,x.length=32
theorem Nam.none {w a:World} {base:Nat} {v:Value} {X:List (List UInt8)} (h:Nam w base v X) (g:w.grownBy a Option.none):Nam a base v X:=⟨zbf h.own g (fun _ e=>by cases e),h.wid⟩
theorem Nam.low {w:World} {b1 b2:Nat} {v:Value} {X:List (List UInt8)} (h:Nam w b1 v X) (hb:b2≤b1):Nam w b2 v X:=⟨za6 h.own hb,h.wid⟩
theorem Nam.setk {u w a:World} {sb mb base:Nat} {S:List ObE} {v:Value} {X:List (List UInt8)} (h:Nam w base v X) (s:SetAt u w sb mb S) (g:w.grownBy a (some mb)):Nam a base v X:=⟨zgo h.own s g,h.wid⟩
theorem Nam.open {w:World} {base:Nat} {v:Value} {X:List (List UInt8)} (h:Nam w base v X):∃ a c,v = .slice a X.length c∧Ids w a c X∧∀ ad,a=some ad→ad.block<w.heap.size:=by
 obtain ⟨a,c,rfl,hI⟩:=Ids.own h.own h.wid
 refine ⟨a,c,rfl,hI,fun ad e => ?_⟩
 subst e
 exact (h.own.lt ad.block (by simp[Value.ownBlock])).2
theorem Nam.ids {w:World} {base n c:Nat} {a:Option Addr} {X:List (List UInt8)} (h:Nam w base (.slice a n c) X):Ids w a c X∧∀ ad,a=some ad→ad.block<w.heap.size:=by
 obtain ⟨a2,c2,e,hI,hl⟩:=h.open
 injection e with e1 e2 e3
 subst e1 e3
 exact ⟨hI,hl⟩
theorem Nam.at {w:World} {base n c:Nat} {a:Option Addr} {X:List (List UInt8)} (h:Nam w base (.slice a n c) X) (i:Nat) (hi:i<X.length):∃ b o,a=some ⟨b,o,Option.none⟩∧w.rangeAt b (o+i*32) (X[i].map bv):=by
 obtain ⟨b,o,e,hr⟩:=h.ids.1.at i hi
 exact ⟨b,o,e,hr i hi⟩
theorem zv7 {S:List ObE} (hS:SetS S) {x:List UInt8} (h:hasS S x=true):x.length=32:=by
 obtain ⟨e,he,rfl⟩:=List.mem_map.1 ((zem S x).1 h)
 exact hS.len e he
structure Pk (w w4 wr:World) (sb mb tb nb:Nat) (S H:List ObE) (V:List (Value × List (List UInt8))):Prop where
 s:SetAt w wr sb mb S
 h:SetAt w4 wr tb nb H
 ne:mb≠nb
 rows:∀ p∈V,Nam wr w.heap.size p.1 p.2
 g:w.grownBy wr none
 wn:w.heap.size≤w4.heap.size
theorem Pk.none {w w4 wr a:World} {sb mb tb nb:Nat} {S H:List ObE} {V:List (Value × List (List UInt8))} (k:Pk w w4 wr sb mb tb nb S H V) (g:wr.grownBy a Option.none):Pk w w4 a sb mb tb nb S H V :=
 ⟨k.s.none g,k.h.none g,k.ne,fun p hp=>(k.rows p hp).none g,tn k.g g,k.wn⟩
theorem Pk.put {w w4 wr a:World} {sb mb tb nb:Nat} {S H H' : List ObE} {V:List (Value × List (List UInt8))} (k:Pk w w4 wr sb mb tb nb S H V) (h:SetAt w4 a tb nb H') (g:wr.grownBy a (some nb)):Pk w w4 a sb mb tb nb S H' V :=
 ⟨k.s.other k.h g k.ne,h,k.ne,fun p hp=>(k.rows p hp).setk k.h g,zad k.g g (fun x e=>by cases e;exact Or.inl (Nat.le_trans k.wn k.h.nm)),k.wn⟩
theorem Pk.add {w w4 wr:World} {sb mb tb nb:Nat} {S H:List ObE} {V:List (Value × List (List UInt8))} {v:Value} {X:List (List UInt8)} (k:Pk w w4 wr sb mb tb nb S H V) (n:Nam wr w.heap.size v X):Pk w w4 wr sb mb tb nb S H ((v,X)::V) :=
 ⟨k.s,k.h,k.ne,fun p hp=>by rcases List.mem_cons.1 hp with rfl | hp;exact n;exact k.rows p hp,k.g,k.wn⟩
theorem Nam.rws {w:World} {base n c:Nat} {a:Option Addr} {X:List (List UInt8)} (h:Nam w base (.slice a n c) X):Rws w 32 (fun x:List UInt8=>x.map bv) a c X:=by
 obtain ⟨a2,c2,e,hr,_⟩:=Rws.own (fun x:List UInt8=>x.map bv) h.own (fun x hx=>by simp[h.wid x hx])
 injection e with e1 e2 e3
 subst e1 e3
 exact hr
structure BuiltS (w w' : World) (sb mb:Nat) (v1 v2 vi:Value) (S:List ObE) (I:List (List UInt8)):Prop where
 set:SetAt w w' sb mb S
 doc:RSet w' w.heap.size v1 v2 S
 own:w'.ownsRow w.heap.size 33 32 vi I.length (I.flatMap (·.map bv))
 wid:∀ x∈I,x.length=32
 few:I.length≤24
 sew:S.length≤24
 g:w.grownBy w' none
def zyz (w w' : World) (e:Ending):Prop:=∃ (sb mb:Nat) (a1 a2 ia:Option Addr) (n1 n2 c1 c2 ic:Nat) (S:List ObE) (I:List (List UInt8)),e = .returned (.tuple #[.pointer (some ⟨sb,0,none⟩),.agg #[.slice a1 n1 c1,.slice a2 n2 c2],.slice ia I.length ic])∧BuiltS w w' sb mb (.slice a1 n1 c1) (.slice a2 n2 c2) (.slice ia I.length ic) S I
structure Gk (w wr:World) (sb mb rb:Nat) (v1 v2:Value) (S:List ObE) (V:List (Value × List (List UInt8))):Prop where
 s:SetAt w wr sb mb S
 d:RSet wr w.heap.size v1 v2 S
 b:Blk wr rb 28 [v1,v2]
 rows:∀ p∈V,Nam wr w.heap.size p.1 p.2
 g:w.grownBy wr none
theorem Gk.none {w wr a:World} {sb mb rb:Nat} {v1 v2:Value} {S:List ObE} {V:List (Value × List (List UInt8))} (k:Gk w wr sb mb rb v1 v2 S V) (g:wr.grownBy a Option.none):Gk w a sb mb rb v1 v2 S V :=
 ⟨k.s.none g,k.d.kept g,k.b.kept g (by simp),fun p hp=>(k.rows p hp).none g,tn k.g g⟩
theorem Gk.add {w wr:World} {sb mb rb:Nat} {v1 v2:Value} {S:List ObE} {V:List (Value × List (List UInt8))} {v:Value} {X:List (List UInt8)} (k:Gk w wr sb mb rb v1 v2 S V) (n:Nam wr w.heap.size v X):Gk w wr sb mb rb v1 v2 S ((v,X)::V) :=
 ⟨k.s,k.d,k.b,fun p hp=>by rcases List.mem_cons.1 hp with rfl | hp;exact n;exact k.rows p hp,k.g⟩
theorem BuiltS.gk {w w1 W2:World} {sb mb:Nat} {v1 v2 vi:Value} {S:List ObE} {I:List (List UInt8)} (h:BuiltS w w1 sb mb v1 v2 vi S I) (hB:Blk W2 w1.heap.size 28 [v1,v2]) (g:w1.grownBy W2 Option.none):Gk w W2 sb mb w1.heap.size v1 v2 S [(vi,I)] :=
 ⟨h.set.none g,h.doc.kept g,hB,fun p hp=>by rw[List.mem_singleton.1 hp];exact (⟨h.own,h.wid⟩:Nam w1 w.heap.size vi I).none g,tn h.g g⟩
structure KyB (x:List UInt8) (KB:List Value):Prop where
 e:KB=x.map bv
 key:keyV x = .agg KB.toArray
 len:KB.length=32
 info:(Tryz.prog.info? 33).map (·.size)=some KB.length
 info2:(Tryz.prog.info? 33).map (·.size)=some KB.toArray.size
 one:KB.toArray.all (·.oneCell')=true
theorem kyb (x:List UInt8) (hx:x.length=32):∃ KB,KyB x KB :=
 ⟨x.map bv,rfl,rfl,by simp[hx],by rw[List.length_map,hx];exact zat,by rw[List.size_toArray,List.length_map,hx];exact zat,all_oneCell_toArray (za5 _)⟩
theorem KyB.zed {x:List UInt8} {KB:List Value} (h:KyB x KB) {Z:Array Value} (hZ:Z.size=32):Z.toList.toArray.size=KB.toArray.size:=by simp[hZ,h.len]
theorem Pk.one {w w4 wr a:World} {sb mb tb nb:Nat} {S S' H:List ObE} {V:List (Value × List (List UInt8))} (k:Pk w w4 wr sb mb tb nb S H V) (h:SetAt w a sb mb S') (g:wr.grownBy a (some mb)):Pk w w4 a sb mb tb nb S' H V :=
 ⟨h,k.h.other k.s g (fun e=>k.ne e.symm),k.ne,fun p hp=>(k.rows p hp).setk k.s g,zad k.g g (fun x e=>by cases e;exact Or.inl k.s.nm),k.wn⟩
theorem zto {S:List ObE} (h:Ris (idsS S)) {x:List UInt8} {k i:Nat} (hk:(idsS S)[k]? = some x) (hi:i<S.length):S[i].id=x↔i=k:=by
 have hn:=h.nodup
 obtain ⟨hkl,hkx⟩:=List.getElem?_eq_some_iff.1 hk
 have hil:i<(idsS S).length:=by simpa[idsS] using hi
 have e:S[i].id=(idsS S)[i]:=by simp[idsS]
 rw[e,← hkx]
 exact ⟨fun h2=>(List.getElem_inj hn).1 h2,fun h2=>by subst h2;rfl⟩
set_option maxHeartbeats 8000000 in
theorem zqp (w:World) (base:Nat) (v1 v2:Value) (S:List ObE) (h:RSet w base v1 v2 S) (hR:Ris (idsS S)) (hf:S.length≤1000) (hb:base≤w.heap.size) (x:List UInt8) :
  Calls Tryz.prog 11 #[.agg #[v1,v2],.string (str x)] w fun e w'=>∃ (a1 a2:Option Addr) (n1 n2 c1 c2:Nat),e = .returned (.tuple #[.agg #[.slice a1 n1 c1,.slice a2 n2 c2],.int .i64 (if hasS S x=true then 0 else 13)])∧RSet w' base (.slice a1 n1 c1) (.slice a2 n2 c2) (zev S x)∧w.grownBy w' none:=by
 obtain ⟨a1,c1,rfl,hI,hIb⟩:=h.ids.rws
 obtain ⟨a2,c2,rfl,hO,hOb⟩:=h.obs.rws
 obtain ⟨n,hn⟩:∃ n,n=S.length:=⟨_,rfl⟩
 have hni:n=(idsS S).length:=by rw[hn];simp[idsS]
 obtain ⟨b1,d1,e1,hStl⟩:=h.ids.open
 have hbe:b1=a1∧d1=c1:=by injection e1 with q1 q2 q3;exact ⟨q1.symm,q3.symm⟩
 obtain ⟨rfl,rfl⟩:=hbe
 clear e1
 obtain ⟨TX,hTX⟩:∃ T,T=str x:=⟨_,rfl⟩
 obtain ⟨y,hy⟩:∃ y:Int,y=if hasS S x=true then 0 else 13:=⟨_,rfl⟩
 rw[← hni,← hn,← hTX,← hy]
 obtain ⟨W1,hW1,hB1,g1⟩:=zaf w 28 [.slice b1 n d1,.slice a2 n c2]
 obtain ⟨W3,hW3,hB3,g3⟩:=zaf W1 28 [.slice none 0 0,.slice none 0 0]
 have s1:W1.heap.size=w.heap.size+1:=by rw[hW1,World.size_alloc]
 have s3:W3.heap.size=w.heap.size+2:=by rw[hW3,World.size_alloc,s1]
 rw[s1] at hB3
 have hzv:=ze8
 have hfold:((w.alloc (.cells #[.slice b1 n d1,.slice a2 n c2] 28)).alloc (.cells #[.slice none 0 0,.slice none 0 0] 28))=W3:=by rw[hW3,hW1]
 have hr0:=zae (zak hB1) g3 (by simp)
 have cp:=zg1 W3 base b1 d1 (idsS S) (hStl.kept (tn g1 g3)) a2 n c2 x (by rw[← hni,hn];omega)
 rw[← hni,← hTX] at cp
 have HF:=hide hfold
 have HB0:=hide (hB1.kept g3 (by simp))
 have HB3:=hide hB3
 have HG3:=hide (tn g1 g3)
 obtain ⟨HI,HO,HN,HNI,HRS,HRI⟩:=zh6 hI hO hn hni h hR
 obtain ⟨HBA,HY,HS3⟩:=zh3 hb hy s3
 have hn9:n≤1000:=by omega
 clear hW1 hW3 hB1 hB3 g1 g3 s1 s3 hTX hfold hI hO hn hni hIb hOb hf hb h hStl hR hy
 go_enter Tryz.func11,Tryz.ntmps11
 go_upto_region 2 with (first
  | (rw[uh HF])
  | (refine wpList_load_mid rfl 28 _ rfl w.heap.size 0 rfl [.slice b1 n d1,.slice a2 n c2] _ hr0 Tryz.underlying28 rfl zaq ?_;clear hr0)
  | (go_at_call 15;refine cp.mono ?_;rintro e w4 ⟨r,rfl,g4,hr⟩;clear cp;have HR4:=hide hr;clear hr))
 rcases uh HR4 with ⟨hr,hno⟩ | ⟨k,hr,hk,_⟩
 ·subst hr
  have hyv:y=13:=by rw[uh HY,if_neg (by rw[zem];exact hno)]
  have hds:zev S x=S:=zjs hno
  have HDS:=hide hds
  have hB4:=(uh HB3).kept g4 (by simp)
  have hr4:=zae (zak (uh HB0)) g4 (by simp)
  have hRS:=(uh HRS).kept (tn (uh HG3) g4)
  rw[← uh HNI,← uh HN] at hRS
  have g5:w4.grownBy (w4.setRow (w.heap.size+1) #[.slice b1 n d1,.slice a2 n c2]) (some (w.heap.size+1)):=zam (zab _ _) _ (Or.inr rfl)
  have hfin:RSet (w4.setRow (w.heap.size+1) #[.slice b1 n d1,.slice a2 n c2]) base (.slice b1 n d1) (.slice a2 n c2) S:=⟨World.ownsRow.kept hRS.ids g5 (Or.inr fun e=>zag hRS.ids hB4 (by decide) e.symm),World.ownsRow.kept hRS.obs g5 (Or.inr fun e=>zag hRS.obs hB4 (by decide) e.symm)⟩
  obtain ⟨HFIN,HB4⟩:=zh2 hfin hB4
  subst hyv
  clear hno hds hRS g5 hfin
  go_wp2_with (first
   | (refine wpList_load_mid rfl 28 _ rfl w.heap.size 0 rfl [.slice b1 n d1,.slice a2 n c2] _ hr4 Tryz.underlying28 rfl zaq ?_;clear hr4)
   | (refine wpList_store_row rfl 28 _ _ rfl (w.heap.size+1) _ rfl rfl _ _ hB4 zaq rfl (zbn _ _ _ _ _ _) ?_;clear hB4))
  refine bodyPost_ret (zai rfl _ _ _ _ _ _ _ rfl ((uh HB4).row [.slice b1 n d1,.slice a2 n c2]) Tryz.underlying28 rfl zaq) rfl ?_
  exact ⟨b1,a2,n,n,d1,c2,rfl,by rw[uh HDS];exact uh HFIN,zam (tn (uh HG3) g4) _ (Or.inl (by omega))⟩
 ·subst hr
  have hyv:y=0:=by rw[uh HY,if_pos ((zem S x).2 (List.mem_of_getElem? hk))]
  subst hyv
  have hkn:k<n:=by rw[uh HNI];exact (List.getElem?_eq_some_iff.1 hk).1
  have hk0:¬ (k:Int)<0:=by omega
  have HK:=hide hk
  obtain ⟨W6,hW6,hB6,g6⟩:=zbb w4 28 #[.slice none 0 0,.slice none 0 0] [.slice none 0 0,.slice none 0 0]
  have hb0:=zi2
  obtain ⟨HW6,HB6⟩:=zh2 hW6 hB6
  have HG6:=hide (tn (tn (uh HG3) g4) g6)
  have HBX:=hide (((uh HB0).kept g4 (by simp)).kept g6 (by simp))
  have HBY:=hide (((uh HB3).kept g4 (by simp)).kept g6 (by simp))
  have hqs:w.heap.size+2≤w4.heap.size:=by rw[← uh HS3];exact g4.size
  have HQS:=hide hqs
  clear hk hW6 hB6 g6 hqs HB0 HB3 HR4
  go_upto_region 6 with (first
   | (refine zay rfl 28 _ rfl #[.slice none 0 0,.slice none 0 0] ?hb ?_;(case hb=>exact hb0))
   | (refine wpList_store_row rfl 28 _ _ rfl w4.heap.size _ rfl rfl _ _ (Blk.new w4 28 [.slice none 0 0,.slice none 0 0]) zaq rfl (zbn _ _ _ _ _ _) ?_;rw[← uh HW6]))
  have HNQ:Hid (some w.heap.size≠some w4.heap.size):=fun e=>by injection e with e;have:=uh HQS;omega
  have HN2:Hid (some (w.heap.size+1)≠some w4.heap.size):=fun e=>by injection e with e;have:=uh HQS;omega
  have hc0:W6.cell? ⟨w.heap.size,0,none⟩=some (.slice b1 n d1):=by rw[(uh HBX).cell];rfl
  have hc1:W6.cell? ⟨w.heap.size,1,none⟩=some (.slice a2 n c2):=by rw[(uh HBX).cell];rfl
  go_loopw [8] (fun i wr=>∃ (j:Nat) (bb1 bb2:Option Addr) (m1 m2 e1 e2:Nat),i = .int .i64 j∧j≤n∧Blk wr w4.heap.size 28 [.slice bb1 m1 e1,.slice bb2 m2 e2]∧Stg wr W6.heap.size (.slice bb1 m1 e1) (idsS ((S.take j).filter fun e=>e.id != x))∧Rob wr W6.heap.size (.slice bb2 m2 e2) ((S.take j).filter fun e=>e.id != x)∧W6.grownBy wr (some w4.heap.size)) (fun i _=>n - (intOf i).toNat)
  case atStart=>exact ⟨0,none,none,0,0,0,0,rfl,Nat.zero_le _,uh HB6,(by simpa[idsS] using Stg.nil W6 W6.heap.size),(by simpa using Rob.nil W6 W6.heap.size),zab _ _⟩
  case round =>
   obtain ⟨j,bb1,bb2,m1,m2,e1,e2,rfl,hj,hBq,hSt,hRo,hgw⟩:=hrel
   have hcr:wr.cell? ⟨w.heap.size,0,none⟩=some (.slice b1 n d1):=hgw.cell hc0 (uh HNQ)
   have hjw:IntKind.i64.wrap ((j:Int)+1)=(j:Int)+1:=by rw[IntKind.wrap_i64];omega
   by_cases hlt:j<n
   ·have hlS:j<S.length:=by rw[← uh HN];exact hlt
    have hat:=zto (uh HRI) (uh HK) hlS
    have hta:=List.take_succ_eq_append_getElem hlS
    by_cases hjk:j=k
    ·have hnew:(S.take (j+1)).filter (fun e=>e.id != x)=(S.take j).filter (fun e=>e.id != x):=by rw[hta,List.filter_append];simp[hat.2 hjk]
     have HNW:=hide hnew
     have hji:(j:Int)=(k:Int):=by omega
     have hjb:((j:Int) != (k:Int))=false:=by simp[hji]
     clear hnew hta hat hlS hc0 hc1 hji
     subst hjk
     go_wp2
     go_roundw
     case rel=>exact ⟨j+1,bb1,bb2,m1,m2,e1,e2,by go_num,by omega,hBq,by rw[uh HNW];exact hSt,by rw[uh HNW];exact hRo,hgw⟩
     case measure=>simp[intOf];omega
    ·have hne:S[j].id≠x:=fun e=>hjk (hat.1 e)
     have hnew:(S.take (j+1)).filter (fun e=>e.id != x)=(S.take j).filter (fun e=>e.id != x)++[S[j]]:=by rw[hta,List.filter_append];simp[hne]
     obtain ⟨rb,ro,hra,hcj0⟩:=((uh HI).kept (uh HG6)).txt j (by rw[← uh HNI];exact hlt)
     rw[show (idsS S)[j]'(by rw[← uh HNI];exact hlt)=S[j].id by simp[idsS]] at hcj0
     obtain ⟨sb,so,hsa,hrj0⟩:=(uh HO).at j hlS
     have hrj:=zae hrj0 (uh HG6) (by simp)
     obtain ⟨F,hF⟩:∃ F,F=S[j]:=⟨_,rfl⟩
     rw[← hF] at hcj0 hrj hnew
     obtain ⟨TF,hTF⟩:∃ T,T=str F.id:=⟨_,rfl⟩
     rw[← hTF] at hcj0
     have hblt:∀ (b:Nat) (o:Nat) (v:Value),w.cell? ⟨b,o,none⟩=some v→some b≠some w4.heap.size:=fun b o v hv e=>by
      injection e with e
      have h1:=World.block_lt_of_cell? w ⟨b,o,none⟩ hv
      have:=uh HQS
      simp only at h1
      omega
     have HNB:Hid (some rb≠some w4.heap.size):=by
      obtain ⟨rb2,ro2,hra2,hcj2⟩:=(uh HI).txt j (by rw[← uh HNI];exact hlt)
      rw[hra] at hra2
      injection hra2 with q1
      injection q1 with q1 q2
      subst q1 q2
      exact hblt _ _ _ hcj2
     have HNS:Hid (some sb≠some w4.heap.size):=hblt sb (so+j*2+0) _ (hrj0 0 _ rfl)
     obtain ⟨L,hL⟩:∃ L,L=(S.take j).filter (fun e=>e.id != x):=⟨_,rfl⟩
     rw[← hL] at hSt hRo hnew
     have hLl:L.length≤1000:=by rw[hL];have:=List.length_filter_le (fun e:ObE=>e.id != x) (S.take j);have:=List.length_take_le j S;have:=uh HN;omega
     obtain ⟨OF,hOF⟩:∃ C,C=roC F:=⟨_,rfl⟩
     rw[← hOF] at hrj
     obtain ⟨kF,TD,hOF2⟩:∃ (k:Int) (T:ByteArray),OF=[.int .i64 k,.string T]:=⟨_,_,hOF⟩
     have HBSO:Hid (∀ W:World,(Instr.buildSlice 26 1 #[(0,.agg OF.toArray)]).run Tryz.prog W = .ok (.slice (some ⟨W.heap.size,0,none⟩) 1 1) (W.alloc (.cells OF.toArray 47))):=fun W=>by rw[hOF2];exact zwl _ _ W
     have HBST:Hid (∀ W:World,(Instr.buildSlice 25 1 #[(0,.string TF)]).run Tryz.prog W = .ok (.slice (some ⟨W.heap.size,0,none⟩) 1 1) (W.alloc (.cells (stR F.id).toArray 9))):=fun W=>by rw[hTF];exact zsh _ W
     have HIO:Hid ((Tryz.prog.info? 47).map (·.size)=some OF.length):=by rw[hOF2];exact zc7
     have hjb:((j:Int) != (k:Int))=true:=by simp;omega
     have hji:¬ (j:Int)=(k:Int):=by omega
     obtain ⟨HNW,HLL,HOF,HST,HRO,HBQ⟩:=zh6 hnew hLl hOF hSt hRo hBq
     have HGW:=hide hgw
     have h0:W6.grownBy wr.drew (some w4.heap.size):=zaj hgw
     have hsz:W6.heap.size≤wr.heap.size:=hgw.size
     clear hnew hta hat hlS hne hF hTF hL hSt hRo hBq hLl hOF hOF2 hrj0 hblt hgw
     subst hra hsa
     go_upto_region 9 with fail
     go_cut [] (fun wx=>∃ (b9:Option Addr) (m9 e9:Nat),Blk wx w4.heap.size 28 [.slice b9 m9 e9,.slice bb2 m2 e2]∧Stg wx W6.heap.size (.slice b9 m9 e9) (idsS L++[F.id])∧Rob wx W6.heap.size (.slice bb2 m2 e2) L∧W6.grownBy wx (some w4.heap.size))
     case first =>
      have HBD:=hide ((uh HBQ).kept (zaj (zab wr none)) (by simp))
      have HOD:=hide ((uh HST).kept (zaj (zab wr none)))
      have HRD:=hide ((uh HRO).kept (zaj (zab wr none)))
      have HSZ:Hid (W6.heap.size≤wr.drew.heap.size):=hsz
      refine wp_region_noPanic ?_
      refine wp_region_held_drew (S:=fun V=>W6.grownBy V (some w4.heap.size)) (by kernel_rfl) h0 (fun _ => ?_)
      obtain ⟨WD,hWD⟩:∃ V,V=wr.drew:=⟨_,rfl⟩
      rw[← hWD]
      rw[← hWD] at h0 HBD HOD HRD HSZ
      clear hWD
      refine tq 0 26 (.fieldAddr 28 (.tmp 7) 0) (.pointer (some ⟨w4.heap.size,0,none⟩)) h0 ?_
      refine tq 2 28 (.fieldAddr 28 (.tmp 2) 0) (.pointer (some ⟨w.heap.size,0,none⟩)) h0 ?_
      refine tq 4 30 (.move (.tmp 8)) (.int .i64 (j:Int)) h0 ?_
      refine tz 3 29 (.load 25 (.tmp 28)) (.slice (some ⟨rb,ro,none⟩) n d1) h0 ?_ (y:=(Or.inl ⟨by rfl,fun V hV=>by (have hv1:=hV.cell hc0 (uh HNQ);go_simp)⟩))
      (try simp only[pq])
      refine tq 5 31 (.indexAddr 25 (.tmp 29) (.tmp 30)) (.pointer (some ⟨rb,ro+j,none⟩)) h0 ?_
      refine tz 6 32 (.load 9 (.tmp 31)) (.string TF) h0 ?_ (y:=(Or.inl ⟨by rfl,fun V hV=>by (have hv1:=hV.cell hcj0 (uh HNB);go_simp)⟩))
      (try simp only[pq])
      refine wpAnyH_ready (rs:=[1,7]) (by kernel_rfl) (by simp) ?_
      refine AllReadyH.cons (o:=⟨some 27,.load 25 (.tmp 26),_,_,_,_⟩) rfl (fun K9 hK9 => ?_) (AllReadyH.cons (o:=⟨some 33,.buildSlice 25 1 #[(0,(.tmp 32))],_,_,_,_⟩) rfl (fun K9 hK9 => ?_) AllReadyH.nil)
      ·have z9:=((uh HBD)).cell 0
       simp only[List.getElem?_cons_zero] at z9
       go_simp
       clear z9
       refine hK9.out _ _ h0 (fun _ => ?_)
       clear hK9 K9
       (try simp only[pq])
       refine rd 7 (some 33) (.buildSlice 25 1 #[(0,(.tmp 32))]) (fun K9 hK9 => ?_)
       obtain ⟨w2,hw2,e2b,g2⟩:=zaf WD 9 (stR F.id)
       refine zar (by rfl) 25 _ rfl (.string TF) _ rfl (uh HBST WD) ?_
       rw[← hw2]
       have E2:Rws w2 1 stR (some ⟨WD.heap.size,0,none⟩) 1 [F.id]:=Rws.one e2b
       have h2:=zad h0 g2 (fun _ e=>by cases e)
       have B2:=((uh HBD)).kept g2 (by simp)
       have O2:=((uh HOD)).kept g2
       have HSG:Hid (WD.heap.size≤w2.heap.size):=g2.size;have R2:=((uh HRD)).kept g2
       refine hK9.out _ _ h2 (fun _ => ?_)
       clear hK9 K9 hw2 e2b
       (try simp only[pq])
       refine rd 8 (some 34) (.call { callee := .builtin .append,args := #[(.tmp 27),(.tmp 33)],argTypes := #[25,25] }) (fun K9 hK9 => ?_)
       refine za4 (by rfl) _ _ rfl W6.heap.size (.slice bb1 m1 e1) (idsS L) [F.id] rfl O2 (some ⟨WD.heap.size,0,none⟩) 1 1 rfl rfl E2 (by rw[show (idsS L).length=L.length by simp[idsS]];have:=uh HLL;simp;omega) (Nat.le_trans (uh HSZ) (uh HSG)) ?_
       intro v3 w3 o3 g3
       have h3:=zad h2 g3 (fun z e=>Or.inl ((World.ownsRow.lt O2) z e).1)
       have B3:=B2.kept g3 (zag O2 B2 (by decide))
       have K3:=World.ownsRow.kept R2 g3 (zfg R2 O2 (by decide))
       obtain ⟨b3,d3,hx3⟩:=zbg o3
       obtain ⟨m3,hm3⟩:∃ m,m=(idsS L++[F.id]).length:=⟨_,rfl⟩
       rw[← hm3] at hx3
       subst hx3
       clear hm3
       have q3:=B3.cell 0
       simp only[List.getElem?_cons_zero] at q3
       have f3:=B3.fz 0
       refine hK9.out _ _ h3 (fun _ => ?_)
       clear hK9 K9
       refine tq 9 35 (.fieldAddr 28 (.tmp 7) 0) (.pointer (some ⟨w4.heap.size,0,none⟩)) h3 ?_
       (try simp only[pq])
       refine rd 10 none (.store 25 (.tmp 35) (.tmp 34)) (fun K9 hK9 => ?_)
       go_simp
       have gs:=zb7 w3 w4.heap.size 0 (.slice b3 m3 d3)
       have h9:=zad h3 gs (fun _ e=>Or.inr e)
       have B9:=B3.set 0 (.slice b3 m3 d3)
       have A9:=World.ownsRow.kept o3 gs (Or.inr fun e=>zag o3 B3 (by decide) e.symm)
       have K9b:=World.ownsRow.kept K3 gs (Or.inr fun e=>zag K3 B3 (by decide) e.symm)
       refine hK9.out _ _ h9 (fun _ => ?_)
       clear hK9 K9
       (try simp only[pq])
       refine wpAnyH_done (by kernel_rfl) ?_ _
       refine NoPanic.normal ?_
       go_wp2_with fail
       go_meet
       case rel=>exact ⟨_,_,_,(by simpa only[List.set_cons_zero] using B9),A9,K9b,h9⟩
      ·obtain ⟨w2,hw2,e2b,g2⟩:=zaf WD 9 (stR F.id)
       refine zar (by rfl) 25 _ rfl (.string TF) _ rfl (uh HBST WD) ?_
       rw[← hw2]
       have E2:Rws w2 1 stR (some ⟨WD.heap.size,0,none⟩) 1 [F.id]:=Rws.one e2b
       have h2:=zad h0 g2 (fun _ e=>by cases e)
       have B2:=((uh HBD)).kept g2 (by simp)
       have O2:=((uh HOD)).kept g2
       have HSG:Hid (WD.heap.size≤w2.heap.size):=g2.size;have R2:=((uh HRD)).kept g2
       refine hK9.out _ _ h2 (fun _ => ?_)
       clear hK9 K9 hw2 e2b
       (try simp only[pq])
       refine rd 1 (some 27) (.load 25 (.tmp 26)) (fun K9 hK9 => ?_)
       have z9:=(B2).cell 0
       simp only[List.getElem?_cons_zero] at z9
       go_simp
       clear z9
       refine hK9.out _ _ h2 (fun _ => ?_)
       clear hK9 K9
       (try simp only[pq])
       refine rd 8 (some 34) (.call { callee := .builtin .append,args := #[(.tmp 27),(.tmp 33)],argTypes := #[25,25] }) (fun K9 hK9 => ?_)
       refine za4 (by rfl) _ _ rfl W6.heap.size (.slice bb1 m1 e1) (idsS L) [F.id] rfl O2 (some ⟨WD.heap.size,0,none⟩) 1 1 rfl rfl E2 (by rw[show (idsS L).length=L.length by simp[idsS]];have:=uh HLL;simp;omega) (Nat.le_trans (uh HSZ) (uh HSG)) ?_
       intro v3 w3 o3 g3
       have h3:=zad h2 g3 (fun z e=>Or.inl ((World.ownsRow.lt O2) z e).1)
       have B3:=B2.kept g3 (zag O2 B2 (by decide))
       have K3:=World.ownsRow.kept R2 g3 (zfg R2 O2 (by decide))
       obtain ⟨b3,d3,hx3⟩:=zbg o3
       obtain ⟨m3,hm3⟩:∃ m,m=(idsS L++[F.id]).length:=⟨_,rfl⟩
       rw[← hm3] at hx3
       subst hx3
       clear hm3
       have q3:=B3.cell 0
       simp only[List.getElem?_cons_zero] at q3
       have f3:=B3.fz 0
       refine hK9.out _ _ h3 (fun _ => ?_)
       clear hK9 K9
       refine tq 9 35 (.fieldAddr 28 (.tmp 7) 0) (.pointer (some ⟨w4.heap.size,0,none⟩)) h3 ?_
       (try simp only[pq])
       refine rd 10 none (.store 25 (.tmp 35) (.tmp 34)) (fun K9 hK9 => ?_)
       go_simp
       have gs:=zb7 w3 w4.heap.size 0 (.slice b3 m3 d3)
       have h9:=zad h3 gs (fun _ e=>Or.inr e)
       have B9:=B3.set 0 (.slice b3 m3 d3)
       have A9:=World.ownsRow.kept o3 gs (Or.inr fun e=>zag o3 B3 (by decide) e.symm)
       have K9b:=World.ownsRow.kept K3 gs (Or.inr fun e=>zag K3 B3 (by decide) e.symm)
       refine hK9.out _ _ h9 (fun _ => ?_)
       clear hK9 K9
       (try simp only[pq])
       refine wpAnyH_done (by kernel_rfl) ?_ _
       refine NoPanic.normal ?_
       go_wp2_with fail
       go_meet
       case rel=>exact ⟨_,_,_,(by simpa only[List.set_cons_zero] using B9),A9,K9b,h9⟩
     case rest =>
      obtain ⟨b9,m9,e9,hB9,hS9,hR9,hg9⟩:=hcut
      obtain ⟨W7,hW7⟩:∃ W,W=wc:=⟨_,rfl⟩
      rw[← hW7]
      rw[← hW7] at hB9 hS9 hR9 hg9
      clear hW7 h0 hcr HST HRO HBQ HGW
      obtain ⟨HST,HRO,HBQ⟩:=zh3 hS9 hR9 hB9
      have h0:W6.grownBy W7.drew (some w4.heap.size):=zaj hg9
      have hsz7:W6.heap.size≤W7.heap.size:=hg9.size
      clear hS9 hR9 hB9 hg9
      go_upto_region 10 with fail
      have HBD:=hide ((uh HBQ).kept (zaj (zab W7 none)) (by simp))
      have HOD:=hide ((uh HST).kept (zaj (zab W7 none)))
      have HRD:=hide ((uh HRO).kept (zaj (zab W7 none)))
      have HSZ:Hid (W6.heap.size≤W7.drew.heap.size):=hsz7
      refine wp_region_noPanic ?_
      refine wp_region_held_drew (S:=fun V=>W6.grownBy V (some w4.heap.size)) (by kernel_rfl) h0 (fun _ => ?_)
      obtain ⟨WD,hWD⟩:∃ V,V=W7.drew:=⟨_,rfl⟩
      rw[← hWD]
      rw[← hWD] at h0 HBD HOD HRD HSZ
      clear hWD
      refine tq 0 36 (.fieldAddr 28 (.tmp 7) 1) (.pointer (some ⟨w4.heap.size,1,none⟩)) h0 ?_
      refine tq 2 38 (.fieldAddr 28 (.tmp 2) 1) (.pointer (some ⟨w.heap.size,1,none⟩)) h0 ?_
      refine tq 4 40 (.move (.tmp 8)) (.int .i64 (j:Int)) h0 ?_
      refine tz 3 39 (.load 26 (.tmp 38)) (.slice (some ⟨sb,so,none⟩) n c2) h0 ?_ (y:=(Or.inl ⟨by rfl,fun V hV=>by (have hv1:=hV.cell hc1 (uh HNQ);go_simp)⟩))
      (try simp only[pq])
      refine tq 5 41 (.indexAddr 26 (.tmp 39) (.tmp 40)) (.pointer (some ⟨sb,so+j*2,none⟩)) h0 ?_
      refine tz 6 42 (.load 47 (.tmp 41)) (.agg OF.toArray) h0 ?_ (y:=(yieldsIf_load_mid (by rfl) _ _ rfl _ _ rfl OF _ (fun V hV=>zae hrj hV (uh HNS)) Tryz.underlying47 rfl (uh HIO)))
      (try simp only[pq])
      refine wpAnyH_ready (rs:=[1,7]) (by kernel_rfl) (by simp) ?_
      refine AllReadyH.cons (o:=⟨some 37,.load 26 (.tmp 36),_,_,_,_⟩) rfl (fun K9 hK9 => ?_) (AllReadyH.cons (o:=⟨some 43,.buildSlice 26 1 #[(0,(.tmp 42))],_,_,_,_⟩) rfl (fun K9 hK9 => ?_) AllReadyH.nil)
      ·have z9:=((uh HBD)).cell 1
       simp only[List.getElem?_cons_zero,List.getElem?_cons_succ] at z9
       go_simp
       clear z9
       refine hK9.out _ _ h0 (fun _ => ?_)
       clear hK9 K9
       (try simp only[pq])
       refine rd 7 (some 43) (.buildSlice 26 1 #[(0,(.tmp 42))]) (fun K9 hK9 => ?_)
       obtain ⟨w2,hw2,e2b,g2⟩:=zaf WD 47 OF
       refine zar (by rfl) 26 _ rfl (.agg OF.toArray) _ rfl (uh HBSO WD) ?_
       rw[← hw2]
       have E2:Rws w2 2 roC (some ⟨WD.heap.size,0,none⟩) 1 [F]:=Rws.one (by rw[← uh HOF];exact e2b)
       have h2:=zad h0 g2 (fun _ e=>by cases e)
       have B2:=((uh HBD)).kept g2 (by simp)
       have O2:=((uh HOD)).kept g2
       have HSG:Hid (WD.heap.size≤w2.heap.size):=g2.size;have R2:=((uh HRD)).kept g2
       refine hK9.out _ _ h2 (fun _ => ?_)
       clear hK9 K9 hw2 e2b
       (try simp only[pq])
       refine rd 8 (some 44) (.call { callee := .builtin .append,args := #[(.tmp 37),(.tmp 43)],argTypes := #[26,26] }) (fun K9 hK9 => ?_)
       refine zax (by rfl) _ _ rfl W6.heap.size (.slice bb2 m2 e2) L [F] rfl R2 (some ⟨WD.heap.size,0,none⟩) 1 1 rfl rfl E2 (by have:=uh HLL;simp;omega) (Nat.le_trans (uh HSZ) (uh HSG)) ?_
       intro v3 w3 o3 g3
       have h3:=zad h2 g3 (fun z e=>Or.inl ((World.ownsRow.lt R2) z e).1)
       have B3:=B2.kept g3 (zag R2 B2 (by decide))
       have K3:=World.ownsRow.kept O2 g3 (zfg O2 R2 (by decide))
       obtain ⟨b3,d3,hx3⟩:=zbg o3
       obtain ⟨m3,hm3⟩:∃ m,m=(L++[F]).length:=⟨_,rfl⟩
       rw[← hm3] at hx3
       subst hx3
       clear hm3
       have q3:=B3.cell 1
       simp only[List.getElem?_cons_zero,List.getElem?_cons_succ] at q3
       have f3:=B3.fz 1
       refine hK9.out _ _ h3 (fun _ => ?_)
       clear hK9 K9
       refine tq 9 45 (.fieldAddr 28 (.tmp 7) 1) (.pointer (some ⟨w4.heap.size,1,none⟩)) h3 ?_
       (try simp only[pq])
       refine rd 10 none (.store 26 (.tmp 45) (.tmp 44)) (fun K9 hK9 => ?_)
       go_simp
       have gs:=zb7 w3 w4.heap.size 1 (.slice b3 m3 d3)
       have h9:=zad h3 gs (fun _ e=>Or.inr e)
       have B9:=B3.set 1 (.slice b3 m3 d3)
       have A9:=World.ownsRow.kept o3 gs (Or.inr fun e=>zag o3 B3 (by decide) e.symm)
       have K9b:=World.ownsRow.kept K3 gs (Or.inr fun e=>zag K3 B3 (by decide) e.symm)
       refine hK9.out _ _ h9 (fun _ => ?_)
       clear hK9 K9
       (try simp only[pq])
       refine wpAnyH_done (by kernel_rfl) ?_ _
       refine NoPanic.normal ?_
       go_wp2
       go_roundw
       case rel=>exact ⟨j+1,b9,b3,m9,m3,e9,d3,by go_num,by omega,(by simpa only[List.set_cons_zero,List.set_cons_succ] using B9),by rw[uh HNW];simpa[idsS] using (show Stg _ _ _ _ from K9b),by rw[uh HNW];exact A9,h9⟩
       case measure=>simp[intOf];omega
      ·obtain ⟨w2,hw2,e2b,g2⟩:=zaf WD 47 OF
       refine zar (by rfl) 26 _ rfl (.agg OF.toArray) _ rfl (uh HBSO WD) ?_
       rw[← hw2]
       have E2:Rws w2 2 roC (some ⟨WD.heap.size,0,none⟩) 1 [F]:=Rws.one (by rw[← uh HOF];exact e2b)
       have h2:=zad h0 g2 (fun _ e=>by cases e)
       have B2:=((uh HBD)).kept g2 (by simp)
       have O2:=((uh HOD)).kept g2
       have HSG:Hid (WD.heap.size≤w2.heap.size):=g2.size;have R2:=((uh HRD)).kept g2
       refine hK9.out _ _ h2 (fun _ => ?_)
       clear hK9 K9 hw2 e2b
       (try simp only[pq])
       refine rd 1 (some 37) (.load 26 (.tmp 36)) (fun K9 hK9 => ?_)
       have z9:=(B2).cell 1
       simp only[List.getElem?_cons_zero,List.getElem?_cons_succ] at z9
       go_simp
       clear z9
       refine hK9.out _ _ h2 (fun _ => ?_)
       clear hK9 K9
       (try simp only[pq])
       refine rd 8 (some 44) (.call { callee := .builtin .append,args := #[(.tmp 37),(.tmp 43)],argTypes := #[26,26] }) (fun K9 hK9 => ?_)
       refine zax (by rfl) _ _ rfl W6.heap.size (.slice bb2 m2 e2) L [F] rfl R2 (some ⟨WD.heap.size,0,none⟩) 1 1 rfl rfl E2 (by have:=uh HLL;simp;omega) (Nat.le_trans (uh HSZ) (uh HSG)) ?_
       intro v3 w3 o3 g3
       have h3:=zad h2 g3 (fun z e=>Or.inl ((World.ownsRow.lt R2) z e).1)
       have B3:=B2.kept g3 (zag R2 B2 (by decide))
       have K3:=World.ownsRow.kept O2 g3 (zfg O2 R2 (by decide))
       obtain ⟨b3,d3,hx3⟩:=zbg o3
       obtain ⟨m3,hm3⟩:∃ m,m=(L++[F]).length:=⟨_,rfl⟩
       rw[← hm3] at hx3
       subst hx3
       clear hm3
       have q3:=B3.cell 1
       simp only[List.getElem?_cons_zero,List.getElem?_cons_succ] at q3
       have f3:=B3.fz 1
       refine hK9.out _ _ h3 (fun _ => ?_)
       clear hK9 K9
       refine tq 9 45 (.fieldAddr 28 (.tmp 7) 1) (.pointer (some ⟨w4.heap.size,1,none⟩)) h3 ?_
       (try simp only[pq])
       refine rd 10 none (.store 26 (.tmp 45) (.tmp 44)) (fun K9 hK9 => ?_)
       go_simp
       have gs:=zb7 w3 w4.heap.size 1 (.slice b3 m3 d3)
       have h9:=zad h3 gs (fun _ e=>Or.inr e)
       have B9:=B3.set 1 (.slice b3 m3 d3)
       have A9:=World.ownsRow.kept o3 gs (Or.inr fun e=>zag o3 B3 (by decide) e.symm)
       have K9b:=World.ownsRow.kept K3 gs (Or.inr fun e=>zag K3 B3 (by decide) e.symm)
       refine hK9.out _ _ h9 (fun _ => ?_)
       clear hK9 K9
       (try simp only[pq])
       refine wpAnyH_done (by kernel_rfl) ?_ _
       refine NoPanic.normal ?_
       go_wp2
       go_roundw
       case rel=>exact ⟨j+1,b9,b3,m9,m3,e9,d3,by go_num,by omega,(by simpa only[List.set_cons_zero,List.set_cons_succ] using B9),by rw[uh HNW];simpa[idsS] using (show Stg _ _ _ _ from K9b),by rw[uh HNW];exact A9,h9⟩
       case measure=>simp[intOf];omega
   ·have hjn:j=S.length:=by rw[← uh HN];omega
    have hall:(S.take j).filter (fun e=>e.id != x)=zev S x:=by rw[hjn,List.take_length];rfl
    rw[hall] at hSt hRo
    have hrq:=zak hBq
    have hB5:=(uh HBY).kept hgw (uh HN2)
    have g5:wr.grownBy (wr.setRow (w.heap.size+1) #[.slice bb1 m1 e1,.slice bb2 m2 e2]) (some (w.heap.size+1)):=zam (zab _ _) _ (Or.inr rfl)
    have hfin:RSet (wr.setRow (w.heap.size+1) #[.slice bb1 m1 e1,.slice bb2 m2 e2]) base (.slice bb1 m1 e1) (.slice bb2 m2 e2) (zev S x):=⟨za6 (World.ownsRow.kept hSt g5 (Or.inr fun e=>zag hSt hB5 (by decide) e.symm)) (Nat.le_trans (uh HBA) (uh HG6).size),za6 (World.ownsRow.kept hRo g5 (Or.inr fun e=>zag hRo hB5 (by decide) e.symm)) (Nat.le_trans (uh HBA) (uh HG6).size)⟩
    have hG:w.grownBy wr none:=zad (uh HG6) hgw (fun z e=>by cases e;exact Or.inl (by have:=uh HQS;omega))
    obtain ⟨HFIN,HG,HB5⟩:=zh3 hfin hG hB5
    clear hjn hall hSt hRo hBq g5 hfin hG hgw
    go_wp2_with (first
     | (refine wpList_load_mid rfl 28 _ rfl w4.heap.size 0 rfl [.slice bb1 m1 e1,.slice bb2 m2 e2] _ hrq Tryz.underlying28 rfl zaq ?_;clear hrq)
     | (refine wpList_store_row rfl 28 _ _ rfl (w.heap.size+1) _ rfl rfl _ _ hB5 zaq rfl (zbn _ _ _ _ _ _) ?_;clear hB5))
    refine bodyPost_ret (zai rfl _ _ _ _ _ _ _ rfl ((uh HB5).row [.slice bb1 m1 e1,.slice bb2 m2 e2]) Tryz.underlying28 rfl zaq) rfl ?_
    exact ⟨bb1,bb2,m1,m2,e1,e2,rfl,uh HFIN,zam (uh HG) _ (Or.inl (by omega))⟩
theorem Gk.turn {w wd:World} {sb mb rb:Nat} {o1 o2:Value} {b1 b2:Option Addr} {m1 m2 d1 d2:Nat} {S:List ObE} {V:List (Value × List (List UInt8))} (hs:SetAt w wd sb mb S) (hR:RSet wd w.heap.size (.slice b1 m1 d1) (.slice b2 m2 d2) S) (hB:Blk wd rb 28 [o1,o2]) (hV:∀ p∈V,Nam wd w.heap.size p.1 p.2) (g:w.grownBy wd Option.none) (hrb:w.heap.size≤rb) :
  Gk w (wd.setRow rb #[.slice b1 m1 d1,.slice b2 m2 d2]) sb mb rb (.slice b1 m1 d1) (.slice b2 m2 d2) S V:=by
 have g7:wd.grownBy (wd.setRow rb #[.slice b1 m1 d1,.slice b2 m2 d2]) (some rb):=zam (zab _ _) _ (Or.inr rfl)
 have hty:¬ Typ wd rb:=zfw hB (by decide)
 refine ⟨hs.kept g7 (fun e=>zn9 hs.blk hB (by decide) (by injection e)) (fun e => ?_) (fun z e=>by cases e;exact hty),⟨World.ownsRow.kept hR.ids g7 (Or.inr fun e=>zag hR.ids hB (by decide) e.symm),World.ownsRow.kept hR.obs g7 (Or.inr fun e=>zag hR.obs hB (by decide) e.symm)⟩,hB.row [.slice b1 m1 d1,.slice b2 m2 d2],fun p hp=>⟨World.ownsRow.kept (hV p hp).own g7 (Or.inr fun e=>zag (hV p hp).own hB (by decide) e.symm),(hV p hp).wid⟩,zam g _ (Or.inl hrb)⟩
 obtain ⟨_,m1',_⟩:=hs.map
 exact m1'.blk hB (by injection e)
theorem Gk.drop {w wr wd:World} {sb mb rb q:Nat} {v1 v2 u1 u2:Value} {S S' : List ObE} {V:List (Value × List (List UInt8))} (k:Gk w wr sb mb rb v1 v2 S V) (hR:RSet wr w.heap.size u1 u2 S') (hq:Blk wr q 28 [u1,u2]) (g:wr.grownBy wd (some mb)) :
  RSet wd w.heap.size u1 u2 S'∧Blk wd q 28 [u1,u2]∧Blk wd rb 28 [v1,v2]∧(∀ p∈V,Nam wd w.heap.size p.1 p.2)∧w.grownBy wd Option.none :=
 ⟨hR.setk k.s g,hq.setk k.s g,k.b.setk k.s g,fun p hp=>(k.rows p hp).setk k.s g,zad k.g g (fun x e=>by cases e;exact Or.inl k.s.nm)⟩
def Gk.Mid (w wx:World) (sb mb rb q:Nat) (u1 u2:Value) (S:List ObE) (V:List (Value × List (List UInt8))):Prop :=
 ∃ o1 o2,SetAt w wx sb mb S∧RSet wx w.heap.size u1 u2 S∧Blk wx rb 28 [o1,o2]∧Blk wx q 28 [u1,u2]∧(∀ p∈V,Nam wx w.heap.size p.1 p.2)∧w.grownBy wx Option.none
theorem Gk.mid {w wr wd wx:World} {sb mb rb q:Nat} {v1 v2 u1 u2:Value} {S S' : List ObE} {V:List (Value × List (List UInt8))} (k:Gk w wr sb mb rb v1 v2 S V) (hR:RSet wr w.heap.size u1 u2 S') (hq:Blk wr q 28 [u1,u2]) (hs:SetAt w wd sb mb S') (g:wr.grownBy wd (some mb)) (gx:wd.grownBy wx Option.none):Gk.Mid w wx sb mb rb q u1 u2 S' V:=by
 obtain ⟨h1,h2,h3,h4,h5⟩:=k.drop hR hq g
 exact ⟨v1,v2,hs.none gx,h1.kept gx,h3.kept gx (by simp),h2.kept gx (by simp),fun p hp=>(h4 p hp).none gx,tn h5 gx⟩
theorem RSet.stl {w:World} {base y1 z1:Nat} {x1:Option Addr} {v2:Value} {S:List ObE} (h:RSet w base (.slice x1 y1 z1) v2 S):y1=(idsS S).length∧Stl w base x1 z1 (idsS S):=by
 obtain ⟨a,c,e,hs⟩:=h.ids.open
 injection e with e1 e2 e3
 subst e1 e3
 exact ⟨e2,hs⟩
theorem RSet.rob {w:World} {base y2 z2:Nat} {x2:Option Addr} {v1:Value} {S:List ObE} (h:RSet w base v1 (.slice x2 y2 z2) S):y2=S.length∧Rws w 2 roC x2 z2 S:=by
 obtain ⟨a,c,e,hs,_⟩:=h.obs.rws
 injection e with e1 e2 e3
 subst e1 e3
 exact ⟨e2,hs⟩
theorem zv8 (k:Int) (s:ByteArray) (w:World):(binOp .neq 47 (.agg #[.int .i64 k,.string s]) (.agg #[.int .i64 k,.string s])).run Tryz.prog w = .ok (.bool false) w:=by
 rw[run_neq_struct,zhd]
 simp[Result.andThen]
theorem zv9 (w:World):(zeroValue 33).run Tryz.prog w = .ok (.agg (zz32.map bv).toArray) w:=by kernel_rfl
theorem zy0 (x:List UInt8):(x.map bv).toArray.all (·.oneCell')=true:=all_oneCell_toArray (za5 _)
set_option maxHeartbeats 8000000 in
theorem zqq (w:World) (ao:Option Addr) (ac:Nat) (L:List PlnR) (hL:Plns w ao ac L) (hT:Tabs w) :
  Calls Tryz.prog 9 #[.slice ao L.length ac] w fun e w'=>∃ (sb mb:Nat) (a1 a2 ia:Option Addr) (n1 n2 c1 c2 ic:Nat) (S:List ObE) (I:List (List UInt8)),e = .returned (.tuple #[.pointer (some ⟨sb,0,none⟩),.agg #[.slice a1 n1 c1,.slice a2 n2 c2],.slice ia I.length ic])∧SetAt w w' sb mb S∧RSet w' w.heap.size (.slice a1 n1 c1) (.slice a2 n2 c2) S∧w'.ownsRow w.heap.size 33 32 (.slice ia I.length ic) I.length (I.flatMap (·.map bv))∧(∀ x∈I,x.length=32)∧I.length≤24∧S.length≤24∧w.grownBy w' none:=by
 obtain ⟨p,hp⟩:∃ p,p=L.length:=⟨_,rfl⟩
 have hpm:p≤9223372036854775807:=by rw[hp];have:=hL.fits;have:=hL.most;unfold maxLen at this;omega
 obtain ⟨W0,hW0,hB0,g0⟩:=zaf w 28 [.slice none 0 0,.slice none 0 0]
 have hzv:=ze8
 have hzi:=zv9
 have cn:=zob W0
 rw[← hp]
 obtain ⟨HW0,HG0,HL,HT,HP,HB0⟩:=zh6 hW0 g0 hL hT hp hB0
 clear hW0 hL hT hp hB0 g0
 go_enter Tryz.func9,Tryz.ntmps9
 go_wp2_with (rw[← uh HW0])
 refine cn.mono ?_
 rintro e w1 ⟨sb,mb,rfl,hS1,g1⟩
 obtain ⟨W2,hW2,hB2,g2⟩:=zaf w1 28 [.slice none 0 0,.slice none 0 0]
 have G2:=tn (tn (uh HG0) g1) g2
 have cm:=ztm W2 ao ac L ((uh HL).kept G2) ((uh HT).kept0 G2)
 rw[← uh HP] at cm
 obtain ⟨HW2,HG2⟩:=zh2 hW2 G2
 have HS2:=hide (hS1.none g2)
 have HB2:=hide hB2
 have HBR:=hide (((uh HB0).kept g1 (by simp)).kept g2 (by simp))
 have HL1:Hid (w.heap.size<w1.heap.size):=Nat.lt_of_lt_of_le (uh HB0).lt g1.size
 clear cn hS1 g1 hW2 hB2 g2 G2
 go_wp2_with (rw[← uh HW2])
 refine cm.mono ?_
 rintro e w3 ⟨v7,v8,R,rfl,hM3,hR24,hRp,g3⟩
 have hS3:=(uh HS2).none g3
 have hB3:=(uh HB2).kept g3 (by simp)
 have hBR3:=(uh HBR).kept g3 (by simp)
 have G3:=tn (uh HG2) g3
 obtain ⟨oa,oc,e7,hob⟩:=hM3.objs.open
 have hIr:w3.ownsRow W2.heap.size 33 32 v8 (R.map idR).length ((R.map idR).flatMap (·.map bv)):=by simpa using hM3.ids
 obtain ⟨ia,ic,e8,hI8⟩:=Ids.own hIr (fun x hx=>by obtain ⟨r,_,rfl⟩:=List.mem_map.1 hx;exact zkx r)
 rw[List.length_map] at e8
 obtain ⟨n,hn⟩:∃ n,n=R.length:=⟨_,rfl⟩
 rw[← hn] at e7 e8
 subst e7 e8
 obtain ⟨HM3,HS3,HB3,HBR3,HG3,HN⟩:=zh6 hM3 hS3 hB3 hBR3 G3 hn
 have hn24:n≤24:=by omega
 have hnp:n≤p:=by rw[hn];exact hRp
 have HWW:Hid (w.heap.size≤W2.heap.size):=(uh HG2).size
 clear cm hM3 hS3 hB3 hBR3 G3 hob hIr hI8 hn hRp hR24 g3
 go_wp2
 go_loopw [9,10,11,12,13,14] (fun i _x10 _x11 _x12 _x13 _x14 wr=>∃ (j:Nat) (S:List ObE) (a1 a2:Option Addr) (n1 n2 c1 c2:Nat),i = .int .i64 j∧j≤n∧S.length≤j∧SetAt W0 wr sb mb S∧Blk wr w1.heap.size 28 [.slice a1 n1 c1,.slice a2 n2 c2]∧Blk wr w.heap.size 28 [.slice none 0 0,.slice none 0 0]∧RSet wr W0.heap.size (.slice a1 n1 c1) (.slice a2 n2 c2) S∧MadeG wr W2.heap.size (.slice oa n oc) (.slice ia n ic) R∧w.grownBy wr none) (fun i _ _ _ _ _ _=>n - (intOf i).toNat)
 case atStart=>exact ⟨0,[],none,none,0,0,0,0,rfl,Nat.zero_le _,Nat.zero_le _,uh HS3,uh HB3,uh HBR3,RSet.nil _ _,uh HM3,uh HG3⟩
 case round =>
  obtain ⟨j,S,a1,a2,n1,n2,c1,c2,rfl,hjn,hSj,hS,hB,hBR,hR,hM,hg⟩:=hrel
  obtain ⟨WR,hWR⟩:∃ V,V=wr:=⟨_,rfl⟩
  subst hWR
  by_cases hlt:j<n
  ·have hjL:j<L.length:=by rw[← uh HP];omega
   have hjR:j<R.length:=by rw[← uh HN];exact hlt
   obtain ⟨pb,pf,hao,hrow,-,-⟩:=((uh HL).kept hg).at j hjL
   obtain ⟨gb,hgb⟩:∃ b,b=L[j].gone:=⟨_,rfl⟩
   have hcg:WR.cell? ⟨pb,pf+j*4+3,none⟩=some (.bool gb):=by rw[hgb];exact hrow 3 _ rfl
   clear hrow hjL hgb
   have hjp:j<p:=by omega
   have hjw:IntKind.i64.wrap ((j:Int)+1)=(j:Int)+1:=by rw[IntKind.wrap_i64];omega
   cases gb with
   | true =>
    subst hao
    go_wp2
    go_roundw
    case rel=>exact ⟨j+1,S,a1,a2,n1,n2,c1,c2,by go_num,by omega,by omega,hS,hB,hBR,hR,hM,hg⟩
    case measure=>simp[intOf];omega
   | false =>
    obtain ⟨rr,hrr⟩:∃ r,r=R[j]:=⟨_,rfl⟩
    have hDr:Dat WR rr.ao rr.c rr.data:=by rw[hrr];exact ⟨hM.objs.bts _ (List.getElem_mem hjR),hM.objs.typ _ (List.getElem_mem hjR)⟩
    have hsm:rr.data.length≤16384:=by rw[hrr];exact hM.small _ (List.getElem_mem hjR)
    obtain ⟨oa9,oc9,e9,hob⟩:=hM.objs.open
    have hee:oa9=oa:=by injection e9 with x y z;exact x.symm
    subst hee
    obtain ⟨ob,of,hoa,hk1,hk2⟩:=hob j hjR
    rw[← hrr] at hk1 hk2
    obtain ⟨kk,d,oo,cc,rfl⟩:∃ kk d oo cc,rr=⟨kk,d,oo,cc⟩:=⟨rr.kind,rr.data,rr.ao,rr.c,rfl⟩
    simp only at hDr hsm hk1 hk2
    obtain ⟨dn,hdn⟩:∃ n,n=d.length:=⟨_,rfl⟩
    rw[← hdn] at hk2
    obtain ⟨OC,hOC⟩:∃ C,C=[Value.int .i64 (kk:Int),Value.slice oo dn cc]:=⟨_,rfl⟩
    have hro0:WR.rangeAt ob (of+j*2) OC:=by
     rw[hOC]
     intro m v hv
     match m,hv with
     | 0,hv=>simp at hv;subst hv;simpa using hk1
     | 1,hv=>simp at hv;subst hv;simpa using hk2
    have hiO:(Tryz.prog.info? 42).map (·.size)=some OC.length:=by rw[hOC];exact zas
    have cp:=zv6 W0 WR sb mb S hS (kk:Int) oo cc d hDr (by omega) ((uh HT).kept0 hg)
    rw[← hdn] at cp
    have hOa:Value.agg OC.toArray = .agg #[.int .i64 (kk:Int),.slice oo dn cc]:=by rw[hOC]
    rw[← hOa] at cp
    obtain ⟨HOa,HOC⟩:=zh2 hOa hOC
    have HRR:Hid (∀ h:j<R.length,idR (R[j]'h)=shaL (putL (kk:Int) d)):=fun h=>by rw[← hrr];rfl
    obtain ⟨HIO,HRO,HJR,HDR,HSM,HDN⟩:=zh6 hiO hro0 hjR hDr hsm hdn
    obtain ⟨HS,HB,HBR,HR,HM,HG⟩:=zh6 hS hB hBR hR hM hg
    clear hOC hOa hrr hk1 hk2 hob e9 hro0 hDr hsm hdn hS hB hBR hR hM hg hjR hiO
    subst hao hoa
    go_upto_region 9 with (first
     | (refine wpList_load_mid rfl 42 _ rfl ob (of+j*2) rfl OC _ (uh HRO) Tryz.underlying42 rfl (uh HIO) ?_)
     | (go_at_call 32;refine cp.mono ?_;rintro e w4 ⟨x,y,rfl,hx32,hy,hxe,hS4,g4⟩;clear cp;obtain ⟨KB,hKB⟩:∃ KB,KB=x.map bv:=⟨_,rfl⟩;rw[show keyV x = .agg KB.toArray from congrArg (fun l=>Value.agg (List.toArray l)) hKB.symm];obtain ⟨W4,hW4,hI4,gi4⟩:=zbb w4 33 (zz32.map bv).toArray KB;have hKl:KB.length=32:=(congrArg List.length hKB).trans ((List.length_map _).trans hx32);have HW4:=hide hW4;have HIK2:Hid ((Tryz.prog.info? 33).map (·.size)=some KB.toArray.size):=(show _=some KB.toArray.size from (by rw[show KB.toArray.size=32 from (List.size_toArray ..).trans hKl];exact zat));have HKO:Hid (KB.toArray.all (·.oneCell')=true):=(by rw[hKB];exact zy0 x);have HZS:Hid ((zz32.map bv).toArray.size=KB.toArray.size):=(show _=_ from (by rw[show KB.toArray.size=32 from (List.size_toArray ..).trans hKl];rfl));have HNB:=hide (show Blk (w4.alloc (.cells (zz32.map bv).toArray 33)) w4.heap.size 33 (zz32.map bv) from Blk.new w4 33 (zz32.map bv));have HKBq:=hide hKB;have HYq:=hide hy;have HXEq:=hide hxe;have HX32q:=hide hx32;have HKLq:=hide hKl;clear hW4 hKB hy hxe hx32 hKl)
     | (refine wpList_store_row rfl 33 _ _ rfl w4.heap.size _ rfl rfl _ _ (uh HNB) (uh HIK2) (uh HZS) (uh HKO) ?_;rw[← uh HW4]))
    have hKB:=uh HKBq
    have hy:=uh HYq
    have hxe:=uh HXEq
    have hx32:=uh HX32q
    have hKl:=uh HKLq
    have hM4:=((uh HM).setk (uh HS) g4).none gi4
    have hR4:=((uh HR).setk (uh HS) g4).kept gi4
    have hB4:=((uh HB).setk (uh HS) g4).kept gi4 (by simp)
    have hBR4:=((uh HBR).setk (uh HS) g4).kept gi4 (by simp)
    have hS5:=hS4.none gi4
    have hG4:w.grownBy W4 none:=tn (zad (uh HG) g4 (fun z e=>by cases e;exact Or.inl (Nat.le_trans (uh HG0).size hS4.nm))) gi4
    have hD4:=((uh HDR).kept g4 (fun z e=>by cases e;exact (uh HS).typ)).none gi4
    have hrs:=zak hB4
    have hro:W4.rangeAt ob (of+j*2) OC:=by
     obtain ⟨oa2,oc2,e2,hob2⟩:=hM4.objs.open
     obtain ⟨ob2,of2,h1,h2,h3⟩:=hob2 j (uh HJR)
     have e3:some (⟨ob,of,none⟩:Addr)=oa2:=by injection e2
     rw[← e3] at h1
     injection h1 with h1
     injection h1 with q1 q2
     subst q1 q2
     have hr0:=uh HRO
     rw[uh HOC] at hr0 ⊢
     have z1:=hr0 0 _ rfl
     have z2:=hr0 1 _ rfl
     obtain ⟨oa5,oc5,e5,hob5⟩:=(uh HM).objs.open
     obtain ⟨ob5,of5,k1,k2,k3⟩:=hob5 j (uh HJR)
     have e6:some (⟨ob,of,none⟩:Addr)=oa5:=by injection e5
     rw[← e6] at k1
     injection k1 with k1
     injection k1 with r1 r2
     subst r1 r2
     rw[Nat.add_zero] at z1
     rw[k2] at z1
     rw[k3] at z2
     injection z1 with z1
     injection z2 with z2
     intro m v hv
     match m,hv with
     | 0,hv=>simp at hv;subst hv;rw[Nat.add_zero,h2,z1]
     | 1,hv=>simp at hv;subst hv;rw[h3,z2]
    have hown:∀ V,W4.grownBy V none→Calls Tryz.prog 16 #[.agg OC.toArray] V fun e w'=>e = .returned (.agg #[.int .i64 (kk:Int),.string (str d)])∧V.grownBy w' none:=fun V gV=>by
     have:=zoj V (kk:Int) oo cc d (hD4.none gV).bts
     rw[← uh HDN,← uh HOa] at this
     exact this
    have hrput:∀ V,W4.grownBy V none→Calls Tryz.prog 36 #[.agg #[.slice a1 n1 c1,.slice a2 n2 c2],.agg #[.int .i64 (kk:Int),.string (str d)]] V fun e w'=>∃ (b1 b2:Option Addr) (m1 m2 d1 d2:Nat) (X:List UInt8),e = .returned (.tuple #[.agg #[.slice b1 m1 d1,.slice b2 m2 d2],.string (str X),.int .i64 y])∧(y=0→X=shaL (putL (kk:Int) d))∧RSet w' W0.heap.size (.slice b1 m1 d1) (.slice b2 m2 d2) (putC S (kk:Int) d)∧V.grownBy w' none:=fun V gV=>by
     rw[hy]
     exact ztn V W0.heap.size _ _ S (hR4.kept gV) (by omega) (Nat.le_trans hS4.ns (Nat.le_trans (Nat.le_of_lt hS5.blk.lt) gV.size)) (kk:Int) d (by have:=uh HSM;omega)
    have hcv:∀ V,W4.grownBy V none→(convert 37 9 (.slice (some ⟨w4.heap.size,0,none⟩) 32 32)).run Tryz.prog V = .ok (.string (str x)) V:=fun V gV=>by
     have hq:=zae (zak hI4) gV (by simp)
     rw[hKB] at hq
     have:=zaz (zca hq (by rw[hx32];unfold maxLen;omega))
     rw[hx32] at this
     exact this
    obtain ⟨HOWN,HRPUT,HCV4,HM4,HB4,HBR4⟩:=zh6 hown hrput hcv hM4 hB4 hBR4
    obtain ⟨HS5,HG4,HI4,HXE,HX32,HKB⟩:=zh6 hS5 hG4 hI4 hxe hx32 hKB
    have HKL:=hide hKl
    have HBL:Hid (w1.heap.size<W4.heap.size):=hB4.lt
    have HI4L:Hid (w4.heap.size<W4.heap.size):=hI4.lt
    clear hM4 hR4 hB4 hBR4 hS5 hG4 hD4 hown hrput hcv hI4 hxe hx32 hKB hKl hy hS4 g4 gi4
    (try simp only[Act.put])
    go_cut [12,13,14] (fun x12 x13 x14 wx=>∃ (p12:Nat) (b1 b2:Option Addr) (m1 m2 d1 d2:Nat) (X:List UInt8),x12 = .pointer (some ⟨p12,0,none⟩)∧x13 = .string (str X)∧x14 = .int .i64 y∧(y=0→X=shaL (putL (kk:Int) d))∧Blk wx p12 28 [.slice b1 m1 d1,.slice b2 m2 d2]∧W4.heap.size≤p12∧RSet wx W0.heap.size (.slice b1 m1 d1) (.slice b2 m2 d2) (putC S (kk:Int) d)∧W4.grownBy wx none)
    case first =>
     as_aux_lemma =>
     have h0:W4.grownBy W4.drew none:=zaj (zab _ _)
     refine wp_region_noPanic ?_
     refine wp_region_held_drew (S:=fun V=>W4.grownBy V none) (by kernel_rfl) h0 (fun _ => ?_)
     obtain ⟨WD,hWD⟩:∃ V,V=W4.drew:=⟨_,rfl⟩
     rw[← hWD]
     rw[← hWD] at h0
     clear hWD
     refine tz 0 42 (.load 28 (.tmp 6)) (.agg [Value.slice a1 n1 c1,Value.slice a2 n2 c2].toArray) h0 ?_ (y:=(yieldsIf_load_mid (by rfl) _ _ rfl _ _ rfl [Value.slice a1 n1 c1,Value.slice a2 n2 c2] _ (fun V hV=>zae hrs hV (by simp)) Tryz.underlying28 rfl zaq))
     refine tq 1 43 (.move (.tmp 7)) (.slice (some ⟨ob,of,none⟩) n oc) h0 ?_
     refine tq 2 44 (.move (.tmp 9)) (.int .i64 (j:Int)) h0 ?_
     refine tq 3 45 (.indexAddr 78 (.tmp 43) (.tmp 44)) (.pointer (some ⟨ob,of+j*2,none⟩)) h0 ?_
     (try simp only[pq])
     refine tz 4 46 (.load 42 (.tmp 45)) (.agg OC.toArray) h0 ?_ (y:=(yieldsIf_load_mid (by rfl) _ _ rfl _ _ rfl OC _ (fun V hV=>zae hro hV (by simp)) Tryz.underlying42 rfl (uh HIO)))
     (try simp only[pq])
     refine wpAnyH_ready (rs:=[5,11]) (by kernel_rfl) (by simp) ?_
     refine AllReadyH.cons (o:=⟨some 47,.call { callee := .value (.func 16),args := #[(.tmp 46)],argTypes := #[42] },_,_,_,_⟩) rfl (fun K9 hK9 => ?_) (AllReadyH.cons (o:=⟨some 12,.alloc 28,_,_,_,_⟩) rfl (fun K9 hK9 => ?_) AllReadyH.nil)
     ·go_simp
      go_at_call 16
      refine (uh HOWN WD h0).mono ?_
      rintro e wo ⟨rfl,go⟩
      go_wp2_with fail
      have ho:=tn h0 go
      refine hK9.out _ _ ho (fun _ => ?_)
      clear hK9 K9 go
      (try simp only[pq])
      refine wpAnyH_ready (rs:=[6,11]) (by kernel_rfl) (by simp) ?_
      refine AllReadyH.cons (o:=⟨some 48,.call { callee := .value (.func 36),args := #[(.tmp 42),(.tmp 47)],argTypes := #[28,47] },_,_,_,_⟩) rfl (fun K9 hK9 => ?_) (AllReadyH.cons (o:=⟨some 12,.alloc 28,_,_,_,_⟩) rfl (fun K9 hK9 => ?_) AllReadyH.nil)
      ·go_simp
       go_at_call 36
       refine (uh HRPUT wo ho).mono ?_
       rintro e wp ⟨b1,b2,m1,m2,d1,d2,X,rfl,hX,hR5,gp⟩
       obtain ⟨TX,hTX⟩:∃ T,T=str X:=⟨_,rfl⟩
       rw[← hTX]
       go_wp2_with fail
       have hp:=tn ho gp
       refine hK9.out _ _ hp (fun _ => ?_)
       clear hK9 K9 gp
       refine tq 7 41 (.move (.tmp 48)) (.tuple #[.agg #[.slice b1 m1 d1,.slice b2 m2 d2],.string TX,.int .i64 y]) hp ?_
       refine tq 8 49 (.extract (.tmp 41) 0) (.agg #[.slice b1 m1 d1,.slice b2 m2 d2]) hp ?_
       refine tq 9 50 (.extract (.tmp 41) 1) (.string TX) hp ?_
       (try simp only[pq])
       refine tq 10 51 (.extract (.tmp 41) 2) (.int .i64 y) hp ?_
       (try simp only[pq])
       refine rd 11 (some 12) (.alloc 28) (fun K9 hK9 => ?_)
       obtain ⟨wa,hwa,hB12,ga⟩:=zaf wp 28 [.slice none 0 0,.slice none 0 0]
       go_simp
       rw[← hwa]
       have ha:=tn hp ga
       have hp12:W4.heap.size≤wp.heap.size:=(hp).size
       replace hR5:=hR5.kept ga
       refine hK9.out _ _ ha (fun _ => ?_)
       clear hK9 K9 hwa ga
       (try simp only[pq])
       refine rd 12 none (.store 28 (.tmp 12) (.tmp 49)) (fun K9 hK9 => ?_)
       rw[if_pos (by rfl)]
       refine wp_store_row _ _ _ rfl (wp.heap.size) _ rfl rfl _ _ hB12 zaq rfl (zbn _ _ _ _ _ _) ?_
       have h9:=zam ha #[.slice b1 m1 d1,.slice b2 m2 d2] (Or.inl hp12)
       have gr9:wa.grownBy (wa.setRow (wp.heap.size) #[.slice b1 m1 d1,.slice b2 m2 d2]) (some (wp.heap.size)):=zam (zab _ _) _ (Or.inr rfl)
       have hR9:RSet _ W0.heap.size (.slice b1 m1 d1) (.slice b2 m2 d2) (putC S (kk:Int) d):=⟨World.ownsRow.kept hR5.ids gr9 (Or.inr fun e=>zag hR5.ids hB12 (by decide) e.symm),World.ownsRow.kept hR5.obs gr9 (Or.inr fun e=>zag hR5.obs hB12 (by decide) e.symm)⟩
       have hB9:=hB12.row [.slice b1 m1 d1,.slice b2 m2 d2]
       refine hK9.out _ _ h9 (fun _ => ?_)
       clear hK9 K9
       (try simp only[Act.put])
       refine tq 13 13 (.assign (.tmp 50)) (.string TX) h9 ?_
       refine tq 14 14 (.assign (.tmp 51)) (.int .i64 y) h9 ?_
       (try simp only[pq])
       refine wpAnyH_done (by kernel_rfl) ?_ _
       refine NoPanic.normal ?_
       go_wp2_with fail
       go_meet
       case rel=>exact ⟨wp.heap.size,b1,b2,m1,m2,d1,d2,X,rfl,(by rw[hTX]),rfl,hX,hB9,hp12,hR9,h9⟩
      ·obtain ⟨wa,hwa,hB12,ga⟩:=zaf wo 28 [.slice none 0 0,.slice none 0 0]
       go_simp
       rw[← hwa]
       have ha:=tn ho ga
       have hp12:W4.heap.size≤wo.heap.size:=(ho).size
       refine hK9.out _ _ ha (fun _ => ?_)
       clear hK9 K9 hwa ga
       (try simp only[pq])
       refine rd 6 (some 48) (.call { callee := .value (.func 36),args := #[(.tmp 42),(.tmp 47)],argTypes := #[28,47] }) (fun K9 hK9 => ?_)
       go_simp
       go_at_call 36
       refine (uh HRPUT wa ha).mono ?_
       rintro e wp ⟨b1,b2,m1,m2,d1,d2,X,rfl,hX,hR5,gp⟩
       obtain ⟨TX,hTX⟩:∃ T,T=str X:=⟨_,rfl⟩
       rw[← hTX]
       go_wp2_with fail
       have hp:=tn ha gp
       replace hB12:=hB12.kept gp (by simp)
       refine hK9.out _ _ hp (fun _ => ?_)
       clear hK9 K9 gp
       refine tq 7 41 (.move (.tmp 48)) (.tuple #[.agg #[.slice b1 m1 d1,.slice b2 m2 d2],.string TX,.int .i64 y]) hp ?_
       refine tq 8 49 (.extract (.tmp 41) 0) (.agg #[.slice b1 m1 d1,.slice b2 m2 d2]) hp ?_
       refine tq 9 50 (.extract (.tmp 41) 1) (.string TX) hp ?_
       (try simp only[pq])
       refine tq 10 51 (.extract (.tmp 41) 2) (.int .i64 y) hp ?_
       (try simp only[pq])
       refine rd 12 none (.store 28 (.tmp 12) (.tmp 49)) (fun K9 hK9 => ?_)
       rw[if_pos (by rfl)]
       refine wp_store_row _ _ _ rfl (wo.heap.size) _ rfl rfl _ _ hB12 zaq rfl (zbn _ _ _ _ _ _) ?_
       have h9:=zam hp #[.slice b1 m1 d1,.slice b2 m2 d2] (Or.inl hp12)
       have gr9:wp.grownBy (wp.setRow (wo.heap.size) #[.slice b1 m1 d1,.slice b2 m2 d2]) (some (wo.heap.size)):=zam (zab _ _) _ (Or.inr rfl)
       have hR9:RSet _ W0.heap.size (.slice b1 m1 d1) (.slice b2 m2 d2) (putC S (kk:Int) d):=⟨World.ownsRow.kept hR5.ids gr9 (Or.inr fun e=>zag hR5.ids hB12 (by decide) e.symm),World.ownsRow.kept hR5.obs gr9 (Or.inr fun e=>zag hR5.obs hB12 (by decide) e.symm)⟩
       have hB9:=hB12.row [.slice b1 m1 d1,.slice b2 m2 d2]
       refine hK9.out _ _ h9 (fun _ => ?_)
       clear hK9 K9
       (try simp only[Act.put])
       refine tq 13 13 (.assign (.tmp 50)) (.string TX) h9 ?_
       refine tq 14 14 (.assign (.tmp 51)) (.int .i64 y) h9 ?_
       (try simp only[pq])
       refine wpAnyH_done (by kernel_rfl) ?_ _
       refine NoPanic.normal ?_
       go_wp2_with fail
       go_meet
       case rel=>exact ⟨wo.heap.size,b1,b2,m1,m2,d1,d2,X,rfl,(by rw[hTX]),rfl,hX,hB9,hp12,hR9,h9⟩
     ·obtain ⟨wa,hwa,hB12,ga⟩:=zaf WD 28 [.slice none 0 0,.slice none 0 0]
      go_simp
      rw[← hwa]
      have ha:=tn h0 ga
      have hp12:W4.heap.size≤WD.heap.size:=(h0).size
      refine hK9.out _ _ ha (fun _ => ?_)
      clear hK9 K9 hwa ga
      (try simp only[pq])
      refine rd 5 (some 47) (.call { callee := .value (.func 16),args := #[(.tmp 46)],argTypes := #[42] }) (fun K9 hK9 => ?_)
      go_simp
      go_at_call 16
      refine (uh HOWN wa ha).mono ?_
      rintro e wo ⟨rfl,go⟩
      go_wp2_with fail
      have ho:=tn ha go
      replace hB12:=hB12.kept go (by simp)
      refine hK9.out _ _ ho (fun _ => ?_)
      clear hK9 K9 go
      (try simp only[pq])
      refine rd 6 (some 48) (.call { callee := .value (.func 36),args := #[(.tmp 42),(.tmp 47)],argTypes := #[28,47] }) (fun K9 hK9 => ?_)
      go_simp
      go_at_call 36
      refine (uh HRPUT wo ho).mono ?_
      rintro e wp ⟨b1,b2,m1,m2,d1,d2,X,rfl,hX,hR5,gp⟩
      obtain ⟨TX,hTX⟩:∃ T,T=str X:=⟨_,rfl⟩
      rw[← hTX]
      go_wp2_with fail
      have hp:=tn ho gp
      replace hB12:=hB12.kept gp (by simp)
      refine hK9.out _ _ hp (fun _ => ?_)
      clear hK9 K9 gp
      refine tq 7 41 (.move (.tmp 48)) (.tuple #[.agg #[.slice b1 m1 d1,.slice b2 m2 d2],.string TX,.int .i64 y]) hp ?_
      refine tq 8 49 (.extract (.tmp 41) 0) (.agg #[.slice b1 m1 d1,.slice b2 m2 d2]) hp ?_
      refine tq 9 50 (.extract (.tmp 41) 1) (.string TX) hp ?_
      (try simp only[pq])
      refine tq 10 51 (.extract (.tmp 41) 2) (.int .i64 y) hp ?_
      (try simp only[pq])
      refine rd 12 none (.store 28 (.tmp 12) (.tmp 49)) (fun K9 hK9 => ?_)
      rw[if_pos (by rfl)]
      refine wp_store_row _ _ _ rfl (WD.heap.size) _ rfl rfl _ _ hB12 zaq rfl (zbn _ _ _ _ _ _) ?_
      have h9:=zam hp #[.slice b1 m1 d1,.slice b2 m2 d2] (Or.inl hp12)
      have gr9:wp.grownBy (wp.setRow (WD.heap.size) #[.slice b1 m1 d1,.slice b2 m2 d2]) (some (WD.heap.size)):=zam (zab _ _) _ (Or.inr rfl)
      have hR9:RSet _ W0.heap.size (.slice b1 m1 d1) (.slice b2 m2 d2) (putC S (kk:Int) d):=⟨World.ownsRow.kept hR5.ids gr9 (Or.inr fun e=>zag hR5.ids hB12 (by decide) e.symm),World.ownsRow.kept hR5.obs gr9 (Or.inr fun e=>zag hR5.obs hB12 (by decide) e.symm)⟩
      have hB9:=hB12.row [.slice b1 m1 d1,.slice b2 m2 d2]
      refine hK9.out _ _ h9 (fun _ => ?_)
      clear hK9 K9
      (try simp only[Act.put])
      refine tq 13 13 (.assign (.tmp 50)) (.string TX) h9 ?_
      refine tq 14 14 (.assign (.tmp 51)) (.int .i64 y) h9 ?_
      (try simp only[pq])
      refine wpAnyH_done (by kernel_rfl) ?_ _
      refine NoPanic.normal ?_
      go_wp2_with fail
      go_meet
      case rel=>exact ⟨WD.heap.size,b1,b2,m1,m2,d1,d2,X,rfl,(by rw[hTX]),rfl,hX,hB9,hp12,hR9,h9⟩
    case rest =>
     obtain ⟨p12,b1,b2,m1,m2,d1,d2,X,rfl,rfl,rfl,hXe,hB12,hp12,hR5,hg5⟩:=hcut
     obtain ⟨W5,hW5⟩:∃ W,W=wc:=⟨_,rfl⟩
     rw[← hW5]
     rw[← hW5] at hB12 hR5 hg5
     clear hW5 hrs hro HOWN HRPUT
     obtain ⟨HR5,HB12,HG5,HXe⟩:=zh4 hR5 hB12 hg5 hXe
     clear hR5 hB12 hXe
     go_upto_region 10 with fail
     go_cut [72] (fun x72 wx=>x72 = .bool false∧wx=W5.drew)
     case first =>
      as_aux_lemma =>
      by_cases hy0:y=0
      ·subst hy0
       have hxx:x=X:=(uh HXE rfl).trans (uh HXe rfl).symm
       subst hxx
       obtain ⟨TX,hTX⟩:∃ T,T=str x:=⟨_,rfl⟩
       rw[← hTX]
       obtain ⟨ib,hib⟩:∃ b,b=w4.heap.size:=⟨_,rfl⟩
       have HCV:Hid (∀ V,W5.grownBy V none→(convert 37 9 (.slice (some ⟨ib,0,none⟩) 32 32)).run Tryz.prog V = .ok (.string TX) V):=fun V gV=>by rw[hTX,hib];exact uh HCV4 V (tn hg5 gV)
       have hrb:W5.rangeAt ib 0 KB:=by rw[hib];exact zae (zak (uh HI4)) hg5 (by simp)
       have hIr:W5.ownsRow W2.heap.size 33 32 (.slice ia n ic) (R.map idR).length ((R.map idR).flatMap (·.map bv)):=by
        have:=((uh HM4).none hg5).ids
        simpa using this
       obtain ⟨ia9,ic9,e9,hI9⟩:=Ids.own hIr (fun z hz=>by obtain ⟨r,_,rfl⟩:=List.mem_map.1 hz;exact zkx r)
       have hia:ia9=ia:=by injection e9 with q1 q2 q3;exact q1.symm
       subst hia
       have hjI:j<(R.map idR).length:=by rw[List.length_map];exact uh HJR
       obtain ⟨jb,jf,hja,hrowj⟩:=hI9.at j hjI
       have hrj:=hrowj j hjI
       rw[show (R.map idR)[j]=x from (List.getElem_map ..).trans ((uh HRR (uh HJR)).trans (uh HXE rfl).symm),← uh HKB] at hrj
       have hiK:(Tryz.prog.info? 33).map (·.size)=some KB.length:=by rw[uh HKL];exact zat
       have HIK:=hide hiK
       have HNE:Hid (∀ V,(binOp .neq 33 (.agg KB.toArray) (.agg KB.toArray)).run Tryz.prog V = .ok (.bool false) V):=fun V=>by rw[uh HKB,znb x x (uh HX32) (uh HX32)];simp
       rw[← hib]
       obtain ⟨HTX9,HIB9⟩:=zh2 hTX hib
       clear hIr hI9 e9 hjI hrowj hTX hib hiK
       subst hja
       have h0:W5.grownBy W5.drew none:=zaj (zab _ _)
       refine wp_region_noPanic ?_
       refine wp_region_held_drew (S:=fun V=>W5.grownBy V none) (by kernel_rfl) h0 (fun _ => ?_)
       refine tq 0 52 (.move (.tmp 11)) (.int .i64 0) h0 ?_
       refine tq 1 53 (.move (.tmp 14)) (.int .i64 0) h0 ?_
       refine tq 2 54 (.binOp .neq 3 (.tmp 52) (.tmp 53) 3) (.bool false) h0 ?_
       refine tq 3 55 (.move (.tmp 54)) (.bool false) h0 ?_
       (try simp only[pq])
       refine tq 4 56 (.move (.tmp 11)) (.int .i64 0) h0 ?_
       refine tq 5 57 (.binOp .eql 38 (.tmp 56) (.const (.int .i64 0)) 38) (.bool true) h0 ?_
       refine tq 6 58 (.move (.tmp 57)) (.bool true) h0 ?_
       refine tz 7 59 (.slice 33 (.tmp 10) none none none) (.slice (some ⟨ib,0,none⟩) 32 32) h0 ?_ (y:=(Or.inl ⟨by rfl,fun V hV=>by (have z9:=zcb ib 0;go_simp)⟩))
       (try simp only[pq])
       refine tz 8 60 (.convert 37 9 (.tmp 59)) (.string TX) h0 ?_ (y:=(Or.inl ⟨by rfl,fun V hV=>by (have z9:=uh HCV V hV;go_simp)⟩))
       refine tq 9 61 (.move (.tmp 13)) (.string TX) h0 ?_
       refine tq 10 62 (.binOp .neq 9 (.tmp 60) (.tmp 61) 9) (.bool false) h0 ?_
       refine tq 11 63 (.move (.tmp 62)) (.bool false) h0 ?_
       (try simp only[pq])
       refine tz 12 64 (.load 33 (.tmp 10)) (.agg KB.toArray) h0 ?_ (y:=(yieldsIf_load_mid (by rfl) _ _ rfl _ _ rfl KB _ (fun V hV=>zae hrb hV (by simp)) Tryz.underlying33 rfl (uh HIK)))
       refine tq 13 65 (.move (.tmp 8)) (.slice (some ⟨jb,jf,none⟩) n ic) h0 ?_
       refine tq 14 66 (.move (.tmp 9)) (.int .i64 (j:Int)) h0 ?_
       refine tq 15 67 (.indexAddr 29 (.tmp 65) (.tmp 66)) (.pointer (some ⟨jb,jf+j*32,none⟩)) h0 ?_
       (try simp only[pq])
       refine tz 16 68 (.load 33 (.tmp 67)) (.agg KB.toArray) h0 ?_ (y:=(yieldsIf_load_mid (by rfl) _ _ rfl _ _ rfl KB _ (fun V hV=>zae hrj hV (by simp)) Tryz.underlying33 rfl (uh HIK)))
       refine tz 17 69 (.binOp .neq 33 (.tmp 64) (.tmp 68) 33) (.bool false) h0 ?_ (y:=(zds (by rfl) _ _ _ _ rfl _ _ _ rfl rfl zel (uh HNE)))
       refine tq 18 70 (.pick (.tmp 63) (.const (.bool true)) (.tmp 69)) (.bool false) h0 ?_
       refine tq 19 71 (.pick (.tmp 58) (.tmp 70) (.const (.bool false))) (.bool false) h0 ?_
       (try simp only[pq])
       refine tq 20 72 (.pick (.tmp 55) (.const (.bool true)) (.tmp 71)) (.bool false) h0 ?_
       (try simp only[pq])
       refine wpAnyH_done (by kernel_rfl) ?_ _
       refine NoPanic.normal ?_
       go_wp2_with fail
       rw[uh HTX9,uh HIB9]
       go_meet
       case rel=>exact ⟨rfl,rfl⟩
      ·have hyb:(y == 0)=false:=by simpa using hy0
       have h0:W5.grownBy W5.drew none:=zaj (zab _ _)
       refine wp_region_noPanic ?_
       refine wp_region_held_drew (S:=fun V=>W5.grownBy V none) (by kernel_rfl) h0 (fun _ => ?_)
       refine tq 0 52 (.move (.tmp 11)) (.int .i64 y) h0 ?_
       refine tq 1 53 (.move (.tmp 14)) (.int .i64 y) h0 ?_
       refine tq 2 54 (.binOp .neq 3 (.tmp 52) (.tmp 53) 3) (.bool false) h0 ?_
       refine tq 3 55 (.move (.tmp 54)) (.bool false) h0 ?_
       (try simp only[pq])
       refine tq 4 56 (.move (.tmp 11)) (.int .i64 y) h0 ?_
       refine tq 5 57 (.binOp .eql 38 (.tmp 56) (.const (.int .i64 0)) 38) (.bool false) h0 ?_
       refine tq 6 58 (.move (.tmp 57)) (.bool false) h0 ?_
       refine tz 7 59 (.slice 33 (.tmp 10) none none none) undef h0 ?_ (y:=(Or.inr ⟨by rfl,rfl⟩))
       (try simp only[pq])
       refine tz 8 60 (.convert 37 9 (.tmp 59)) undef h0 ?_ (y:=(Or.inr ⟨by rfl,rfl⟩))
       refine tz 9 61 (.move (.tmp 13)) undef h0 ?_ (y:=(Or.inr ⟨by rfl,rfl⟩))
       refine tz 10 62 (.binOp .neq 9 (.tmp 60) (.tmp 61) 9) undef h0 ?_ (y:=(Or.inr ⟨by rfl,rfl⟩))
       refine tz 11 63 (.move (.tmp 62)) undef h0 ?_ (y:=(Or.inr ⟨by rfl,rfl⟩))
       (try simp only[pq])
       refine tz 12 64 (.load 33 (.tmp 10)) undef h0 ?_ (y:=(Or.inr ⟨by rfl,rfl⟩))
       refine tz 13 65 (.move (.tmp 8)) undef h0 ?_ (y:=(Or.inr ⟨by rfl,rfl⟩))
       refine tz 14 66 (.move (.tmp 9)) undef h0 ?_ (y:=(Or.inr ⟨by rfl,rfl⟩))
       refine tz 15 67 (.indexAddr 29 (.tmp 65) (.tmp 66)) undef h0 ?_ (y:=(Or.inr ⟨by rfl,rfl⟩))
       (try simp only[pq])
       refine tz 16 68 (.load 33 (.tmp 67)) undef h0 ?_ (y:=(Or.inr ⟨by rfl,rfl⟩))
       refine tz 17 69 (.binOp .neq 33 (.tmp 64) (.tmp 68) 33) undef h0 ?_ (y:=(Or.inr ⟨by rfl,rfl⟩))
       refine tz 18 70 (.pick (.tmp 63) (.const (.bool true)) (.tmp 69)) undef h0 ?_ (y:=(Or.inr ⟨by rfl,rfl⟩))
       refine tq 19 71 (.pick (.tmp 58) (.tmp 70) (.const (.bool false))) (.bool false) h0 ?_
       (try simp only[pq])
       refine tq 20 72 (.pick (.tmp 55) (.const (.bool true)) (.tmp 71)) (.bool false) h0 ?_
       (try simp only[pq])
       refine wpAnyH_done (by kernel_rfl) ?_ _
       refine NoPanic.normal ?_
       go_wp2_with fail
       go_meet
       case rel=>exact ⟨rfl,rfl⟩
     case rest =>
      as_aux_lemma =>
      obtain ⟨rfl,hwc⟩:=hcut
      rw[hwc]
      clear hwc
      have gd:=zaj (zab W5 none)
      obtain ⟨W6,hW6⟩:∃ W,W=W5.drew:=⟨_,rfl⟩
      rw[← hW6]
      rw[← hW6] at gd
      clear hW6
      have hB12:=(uh HB12).kept gd (by simp)
      have hr12:=zak hB12
      have hg6:=tn (uh HG5) gd
      have hBr:=(uh HB4).kept hg6 (by simp)
      have hR6:=(uh HR5).kept gd
      have g7:W6.grownBy (W6.setRow w1.heap.size #[.slice b1 m1 d1,.slice b2 m2 d2]) (some w1.heap.size):=zam (zab _ _) _ (Or.inr rfl)
      have hM6:=(uh HM4).none hg6
      have hS6:=(uh HS5).none hg6
      have hfin:SetAt W0 (W6.setRow w1.heap.size #[.slice b1 m1 d1,.slice b2 m2 d2]) sb mb (putC S (kk:Int) d)∧Blk (W6.setRow w1.heap.size #[.slice b1 m1 d1,.slice b2 m2 d2]) w1.heap.size 28 [.slice b1 m1 d1,.slice b2 m2 d2]∧Blk (W6.setRow w1.heap.size #[.slice b1 m1 d1,.slice b2 m2 d2]) w.heap.size 28 [.slice none 0 0,.slice none 0 0]∧RSet (W6.setRow w1.heap.size #[.slice b1 m1 d1,.slice b2 m2 d2]) W0.heap.size (.slice b1 m1 d1) (.slice b2 m2 d2) (putC S (kk:Int) d)∧MadeG (W6.setRow w1.heap.size #[.slice b1 m1 d1,.slice b2 m2 d2]) W2.heap.size (.slice (some ⟨ob,of,none⟩) n oc) (.slice ia n ic) R∧w.grownBy (W6.setRow w1.heap.size #[.slice b1 m1 d1,.slice b2 m2 d2]) none:=by
       have hty:¬ Typ W6 w1.heap.size:=zfw hBr (by decide)
       refine ⟨hS6.kept g7 (fun e=>zn9 hS6.blk hBr (by decide) (by injection e)) (fun e => ?_) (fun z e=>by cases e;exact hty),hBr.row [.slice b1 m1 d1,.slice b2 m2 d2],?_,⟨World.ownsRow.kept hR6.ids g7 (Or.inr fun e=>zag hR6.ids hBr (by decide) e.symm),World.ownsRow.kept hR6.obs g7 (Or.inr fun e=>zag hR6.obs hBr (by decide) e.symm)⟩,⟨⟨World.ownsRow.kept hM6.objs.own g7 (Or.inr fun e=>zag hM6.objs.own hBr (by decide) e.symm),fun r hr=>(hM6.objs.bts r hr).kept g7 (fun z e ad e2 e3=>by cases e;exact hty (by rw[← e3];exact hM6.objs.typ r hr ad e2)),fun r hr ad e=>(hM6.objs.typ r hr ad e).kept g7 (fun e2=>by injection e2 with e2;exact hty (by rw[← e2];exact hM6.objs.typ r hr ad e))⟩,World.ownsRow.kept hM6.ids g7 (Or.inr fun e=>zag hM6.ids hBr (by decide) e.symm),hM6.small⟩,zam (tn (uh HG4) hg6) _ (Or.inl (Nat.le_of_lt (uh HL1)))⟩
       ·obtain ⟨_,m1',_⟩:=hS6.map
        exact m1'.blk hBr (by injection e)
       ·exact ((uh HBR4).kept hg6 (by simp)).kept g7 (fun e=>by injection e with e;have:=uh HL1;omega)
      obtain ⟨HFIN,HBr⟩:=zh2 hfin hBr
      clear hfin hM6 hS6 hR6 g7 hg6 hB12
      go_wp2_with (first
       | (refine wpList_load_mid rfl 28 _ rfl p12 0 rfl [.slice b1 m1 d1,.slice b2 m2 d2] _ hr12 Tryz.underlying28 rfl zaq ?_;clear hr12)
       | (refine wpList_store_row rfl 28 _ _ rfl w1.heap.size _ rfl rfl _ _ (uh HBr) zaq rfl (zbn _ _ _ _ _ _) ?_))
      go_roundw
      case rel =>
       obtain ⟨q1,q2,q3,q4,q5,q6⟩:=uh HFIN
       exact ⟨j+1,putC S (kk:Int) d,b1,b2,m1,m2,d1,d2,by go_num,by omega,by have:=zv5 S (kk:Int) d;omega,q1,q2,q3,q4,q5,q6⟩
      case measure=>simp[intOf];omega
  ·skip
   have hr9:WR.drew.rangeAt w1.heap.size 0 [Value.slice a1 n1 c1,Value.slice a2 n2 c2]:=zae (zak hB) (zaj (zab WR none)) (by simp)
   have hBR9:=hBR.kept (zaj (zab WR none)) (by simp)
   have gd:=zaj (zab WR none)
   have g7:WR.drew.grownBy (WR.drew.setRow w.heap.size #[.slice a1 n1 c1,.slice a2 n2 c2]) (some w.heap.size):=zam (zab _ _) _ (Or.inr rfl)
   have hS6:=hS.none gd
   have hR6:=hR.kept gd
   have hI6:WR.drew.ownsRow W2.heap.size 33 32 (.slice ia n ic) n ((R.map idR).flatMap (·.map bv)):=by rw[uh HN];have:=(hM.none gd).ids;rw[uh HN] at this;exact this
   have hfin:SetAt w (WR.drew.setRow w.heap.size #[.slice a1 n1 c1,.slice a2 n2 c2]) sb mb S∧RSet (WR.drew.setRow w.heap.size #[.slice a1 n1 c1,.slice a2 n2 c2]) w.heap.size (.slice a1 n1 c1) (.slice a2 n2 c2) S∧(WR.drew.setRow w.heap.size #[.slice a1 n1 c1,.slice a2 n2 c2]).ownsRow w.heap.size 33 32 (.slice ia n ic) n ((R.map idR).flatMap (·.map bv))∧w.grownBy (WR.drew.setRow w.heap.size #[.slice a1 n1 c1,.slice a2 n2 c2]) none∧Blk (WR.drew.setRow w.heap.size #[.slice a1 n1 c1,.slice a2 n2 c2]) w.heap.size 28 [.slice a1 n1 c1,.slice a2 n2 c2]:=by
    have hw0:=(uh HG0).size
    refine ⟨(hS6.kept g7 (fun e=>zn9 hS6.blk hBR9 (by decide) (by injection e)) (fun e => ?_) (fun z e=>by cases e;exact zfw hBR9 (by decide))).up hw0,RSet.low ⟨World.ownsRow.kept hR6.ids g7 (Or.inr fun e=>zag hR6.ids hBR9 (by decide) e.symm),World.ownsRow.kept hR6.obs g7 (Or.inr fun e=>zag hR6.obs hBR9 (by decide) e.symm)⟩ hw0,za6 (World.ownsRow.kept hI6 g7 (Or.inr fun e=>zag hI6 hBR9 (by decide) e.symm)) (uh HWW),zam (tn hg gd) _ (Or.inl (Nat.le_refl _)),hBR9.row [.slice a1 n1 c1,.slice a2 n2 c2]⟩
    obtain ⟨_,m1',_⟩:=hS6.map
    exact m1'.blk hBR9 (by injection e)
   clear g7 hS6 hR6 hI6 gd hS hB hBR hR hM hg
   go_upto_region 13 with fail
   refine wp_region_noPanic ?_
   refine wp_region_held_drew (S:=fun V=>True) (by kernel_rfl) trivial (fun _ => ?_)
   obtain ⟨WD,hWD⟩:∃ V,V=WR.drew:=⟨_,rfl⟩
   rw[← hWD]
   rw[← hWD] at hr9 hBR9 hfin
   clear hWD
   refine tq 0 76 (.move (.tmp 5)) (.pointer (some ⟨sb,0,none⟩)) trivial ?_
   refine tq 2 78 (.move (.tmp 8)) (.slice ia n ic) trivial ?_
   refine tq 3 2 (.assign (.tmp 76)) (.pointer (some ⟨sb,0,none⟩)) trivial ?_
   (try simp only[pq])
   refine rd 1 (some 77) (.load 28 (.tmp 6)) (fun K9 hK9 => ?_)
   rw[if_pos (by rfl)]
   refine wp_load_mid _ _ rfl w1.heap.size 0 rfl [Value.slice a1 n1 c1,Value.slice a2 n2 c2] _ hr9 Tryz.underlying28 rfl zaq ?_
   refine hK9.out _ _ trivial (fun _ => ?_)
   clear hK9 K9
   (try simp only[pq])
   refine rd 4 none (.store 28 (.tmp 3) (.tmp 77)) (fun K9 hK9 => ?_)
   rw[if_pos (by rfl)]
   refine wp_store_row _ _ _ rfl w.heap.size _ rfl rfl _ _ hBR9 zaq rfl (zbn _ _ _ _ _ _) ?_
   refine hK9.out _ _ trivial (fun _ => ?_)
   clear hK9 K9
   (try simp only[Act.put])
   refine tq 5 4 (.assign (.tmp 78)) (.slice ia n ic) trivial ?_
   (try simp only[pq])
   refine wpAnyH_done (by kernel_rfl) ?_ _
   refine NoPanic.normal ?_
   obtain ⟨q1,q2,q3,q4,q5⟩:=hfin
   go_wp2_with fail
   refine bodyPost_ret (ziu rfl _ _ _ _ _ _ _ rfl q5 Tryz.underlying28 rfl zaq) rfl ?_
   refine ⟨sb,mb,a1,a2,ia,n1,n2,c1,c2,ic,S,R.map idR,?_,q1,q2,?_,fun x hx=>by obtain ⟨r,_,rfl⟩:=List.mem_map.1 hx;exact zkx r,by rw[List.length_map,← uh HN];exact hn24,by omega,q4⟩
   ·rw[List.length_map,← uh HN];rfl
   ·rw[List.length_map,← uh HN];exact q3
end Go.Proofs.YthhnfloohbdaiaaGreatDoor
