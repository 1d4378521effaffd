/- Lemmas. -/
import Derived.Test.YthhnfloohbdaiaaGreatDoorRGPut
import Derived.Test.YthhnfloohbdaiaaGreatDoorGMade
namespace Go.Proofs.YthhnfloohbdaiaaGreatDoor
open Go.RowKit
def putC (S:List ObE) (k:Int) (d:List UInt8):List ObE:=if zat k d=0 then putS S ⟨shaL (putL k d),k,d⟩ else S
theorem zv0 (S:List ObE) (k:Int) (d:List UInt8):(putC S k d).length≤S.length+1:=by
 unfold putC
 split
 ·exact zn6 _ _
 ·omega
theorem zv1 (u w:World) (sb mb:Nat) (S:List ObE) (h:SetAt u w sb mb S) (k:Int) (ao:Option Addr) (c:Nat) (d:List UInt8) (hd:Dat w ao c d) (hf:S.length<1000) (hT:Tabs w) :
  Calls Tryz.prog 32 #[.pointer (some ⟨sb,0,none⟩),.agg #[.int .i64 k,.slice ao d.length c]] w fun e w'=>∃ (x:List UInt8) (y:Int),e = .returned (.tuple #[keyV x,.int .i64 y])∧x.length=32∧y=zat k d∧(y=0→x=shaL (putL k d))∧SetAt u w' sb mb (putC S k d)∧w.grownBy w' (some mb):=by
 unfold putC
 by_cases hc:zat k d=0
 ·refine (zm1 u w sb mb S h k ao c d hd hc hf hT).mono ?_
  rintro e w' ⟨rfl,h1,h2⟩
  exact ⟨_,0,rfl,zba _,hc.symm,fun _=>rfl,by rw[if_pos hc];exact h1,h2⟩
 ·refine (zvl u w sb mb S h k ao c d hd.bts hc).mono ?_
  rintro e w' ⟨rfl,h2⟩
  exact ⟨_,_,rfl,rfl,rfl,fun e=>absurd e hc,by rw[if_neg hc];exact h.none h2,zav _ h2⟩
theorem zth (w:World) (base:Nat) (v1 v2:Value) (S:List ObE) (h:RSet w base v1 v2 S) (hf:S.length≤1000) (hb:base≤w.heap.size) (k:Int) (d:List UInt8) (hd:d.length≤100000) :
  Calls Tryz.prog 36 #[.agg #[v1,v2],.agg #[.int .i64 k,.string (str d)]] w fun e w'=>∃ (a1 a2:Option Addr) (n1 n2 c1 c2:Nat) (x:List UInt8),e = .returned (.tuple #[.agg #[.slice a1 n1 c1,.slice a2 n2 c2],.string (str x),.int .i64 (zat k d)])∧(zat k d=0→x=shaL (putL k d))∧RSet w' base (.slice a1 n1 c1) (.slice a2 n2 c2) (putC S k d)∧w.grownBy w' none:=by
 unfold putC
 by_cases hc:zat k d=0
 ·refine (zvg w base v1 v2 S h hf hb k d hd hc).mono ?_
  rintro e w' ⟨u1,u2,rfl,h1,h2⟩
  obtain ⟨a1,c1,rfl⟩:=zbi h1.ids
  obtain ⟨a2,c2,rfl⟩:=zbi h1.obs
  exact ⟨a1,a2,_,_,c1,c2,_,by rw[hc],fun _=>rfl,by rw[if_pos hc];exact h1,h2⟩
 ·obtain ⟨a1,c1,rfl⟩:=zbi h.ids
  obtain ⟨a2,c2,rfl⟩:=zbi h.obs
  refine (zsn w a1 a2 _ _ c1 c2 k d hd hc).mono ?_
  rintro e w' ⟨rfl,h2⟩
  exact ⟨a1,a2,_,_,c1,c2,[],rfl,fun e=>absurd e hc,by rw[if_neg hc];exact h.kept h2,h2⟩
theorem zgh {u w a:World} {sb mb base n k:Nat} {S:List ObE} {t:TypeId} {v:Value} {xs:List Value} (h:w.ownsRow base t k v n xs) (s:SetAt u w sb mb S) (g:w.grownBy a (some mb)):a.ownsRow base t k v n xs:=by
 obtain ⟨R,m1,_⟩:=s.map
 refine h.kept g ?_
 by_cases e:v.ownBlock=none
 ·exact Or.inl e
 ·exact Or.inr fun e2=>m1.own h e2.symm
theorem RSet.setk {u w a:World} {sb mb base:Nat} {S T:List ObE} {v1 v2:Value} (h:RSet w base v1 v2 T) (s:SetAt u w sb mb S) (g:w.grownBy a (some mb)):RSet a base v1 v2 T:=⟨zgh h.ids s g,zgh h.obs s g⟩
theorem MadeG.setk {u w a:World} {sb mb base:Nat} {S:List ObE} {v1 v2:Value} {R:List ObjR} (h:MadeG w base v1 v2 R) (s:SetAt u w sb mb S) (g:w.grownBy a (some mb)):MadeG a base v1 v2 R :=
 ⟨⟨zgh h.objs.own s g,fun r hr=>(h.objs.bts r hr).kept g (fun x e ad e2 e3=>by cases e;exact s.typ (by rw[← e3];exact h.objs.typ r hr ad e2)),fun r hr ad e=>(h.objs.typ r hr ad e).kept g (fun e2=>by injection e2 with e2;exact s.typ (by rw[← e2];exact h.objs.typ r hr ad e))⟩,zgh h.ids s g,h.small⟩
theorem Blk.setk {u w a:World} {sb mb b:Nat} {S:List ObE} {t:TypeId} {cs:List Value} (h:Blk w b t cs) (s:SetAt u w sb mb S) (g:w.grownBy a (some mb)):Blk a b t cs:=by
 obtain ⟨R,m1,_⟩:=s.map
 exact h.kept g (fun e=>m1.blk h (by injection e with e;exact e.symm))
structure Nam (w:World) (base:Nat) (v:Value) (X:List (List UInt8)):Prop where
 own:w.ownsRow base 33 32 v X.length (X.flatMap (·.map bv))
 wid:∀ x∈X,x.length=32
theorem Nam.none {w a:World} {base:Nat} {v:Value} {X:List (List UInt8)} (h:Nam w base v X) (g:w.grownBy a Option.none):Nam a base v X:=⟨zbe h.own g (fun _ e=>by cases e),h.wid⟩
theorem Nam.low {w:World} {b1 b2:Nat} {v:Value} {X:List (List UInt8)} (h:Nam w b1 v X) (hb:b2≤b1):Nam w b2 v X:=⟨za7 h.own hb,h.wid⟩
theorem Nam.setk {u w a:World} {sb mb base:Nat} {S:List ObE} {v:Value} {X:List (List UInt8)} (h:Nam w base v X) (s:SetAt u w sb mb S) (g:w.grownBy a (some mb)):Nam a base v X:=⟨zgh h.own s g,h.wid⟩
theorem Nam.open {w:World} {base:Nat} {v:Value} {X:List (List UInt8)} (h:Nam w base v X):∃ a c,v = .slice a X.length c∧Ids w a c X∧∀ ad,a=some ad→ad.block<w.heap.size:=by
 obtain ⟨a,c,rfl,hI⟩:=Ids.own h.own h.wid
 refine ⟨a,c,rfl,hI,fun ad e => ?_⟩
 subst e
 exact (h.own.lt ad.block (by simp[Value.ownBlock])).2
theorem Nam.ids {w:World} {base n c:Nat} {a:Option Addr} {X:List (List UInt8)} (h:Nam w base (.slice a n c) X):Ids w a c X∧∀ ad,a=some ad→ad.block<w.heap.size:=by
 obtain ⟨a2,c2,e,hI,hl⟩:=h.open
 injection e with e1 e2 e3
 subst e1 e3
 exact ⟨hI,hl⟩
theorem Nam.at {w:World} {base n c:Nat} {a:Option Addr} {X:List (List UInt8)} (h:Nam w base (.slice a n c) X) (i:Nat) (hi:i<X.length):∃ b o,a=some ⟨b,o,Option.none⟩∧w.rangeAt b (o+i*32) (X[i].map bv):=by
 obtain ⟨b,o,e,hr⟩:=h.ids.1.at i hi
 exact ⟨b,o,e,hr i hi⟩
structure Pk (w w4 wr:World) (sb mb tb nb:Nat) (S H:List ObE) (V:List (Value × List (List UInt8))):Prop where
 s:SetAt w wr sb mb S
 h:SetAt w4 wr tb nb H
 ne:mb≠nb
 rows:∀ p∈V,Nam wr w.heap.size p.1 p.2
 g:w.grownBy wr none
 wn:w.heap.size≤w4.heap.size
theorem Pk.none {w w4 wr a:World} {sb mb tb nb:Nat} {S H:List ObE} {V:List (Value × List (List UInt8))} (k:Pk w w4 wr sb mb tb nb S H V) (g:wr.grownBy a Option.none):Pk w w4 a sb mb tb nb S H V :=
 ⟨k.s.none g,k.h.none g,k.ne,fun p hp=>(k.rows p hp).none g,tn k.g g,k.wn⟩
theorem Pk.put {w w4 wr a:World} {sb mb tb nb:Nat} {S H H' : List ObE} {V:List (Value × List (List UInt8))} (k:Pk w w4 wr sb mb tb nb S H V) (h:SetAt w4 a tb nb H') (g:wr.grownBy a (some nb)):Pk w w4 a sb mb tb nb S H' V :=
 ⟨k.s.other k.h g k.ne,h,k.ne,fun p hp=>(k.rows p hp).setk k.h g,zac k.g g (fun x e=>by cases e;exact Or.inl (Nat.le_trans k.wn k.h.nm)),k.wn⟩
theorem Pk.add {w w4 wr:World} {sb mb tb nb:Nat} {S H:List ObE} {V:List (Value × List (List UInt8))} {v:Value} {X:List (List UInt8)} (k:Pk w w4 wr sb mb tb nb S H V) (n:Nam wr w.heap.size v X):Pk w w4 wr sb mb tb nb S H ((v,X)::V) :=
 ⟨k.s,k.h,k.ne,fun p hp=>by rcases List.mem_cons.1 hp with rfl | hp;exact n;exact k.rows p hp,k.g,k.wn⟩
theorem Nam.rws {w:World} {base n c:Nat} {a:Option Addr} {X:List (List UInt8)} (h:Nam w base (.slice a n c) X):Rws w 32 (fun x:List UInt8=>x.map bv) a c X:=by
 obtain ⟨a2,c2,e,hr,_⟩:=Rws.own (fun x:List UInt8=>x.map bv) h.own (fun x hx=>by simp[h.wid x hx])
 injection e with e1 e2 e3
 subst e1 e3
 exact hr
theorem zv2 (w:World):(zeroValue 33).run Tryz.prog w = .ok (.agg (zz32.map bv).toArray) w:=by kernel_rfl
theorem zyu (x:List UInt8):(x.map bv).toArray.all (·.oneCell')=true:=all_oneCell_toArray (za4 _)
set_option maxRecDepth 100000 in
set_option maxHeartbeats 8000000 in
theorem zqi (w:World) (ao:Option Addr) (ac:Nat) (L:List PlnR) (hL:Plns w ao ac L) (hT:Tabs w) :
  Calls Tryz.prog 9 #[.slice ao L.length ac] w fun e w'=>∃ (sb mb:Nat) (a1 a2 ia:Option Addr) (n1 n2 c1 c2 ic:Nat) (S:List ObE) (I:List (List UInt8)),e = .returned (.tuple #[.pointer (some ⟨sb,0,none⟩),.agg #[.slice a1 n1 c1,.slice a2 n2 c2],.slice ia I.length ic])∧SetAt w w' sb mb S∧RSet w' w.heap.size (.slice a1 n1 c1) (.slice a2 n2 c2) S∧w'.ownsRow w.heap.size 33 32 (.slice ia I.length ic) I.length (I.flatMap (·.map bv))∧(∀ x∈I,x.length=32)∧I.length≤24∧S.length≤24∧w.grownBy w' none:=by
 obtain ⟨p,hp⟩:∃ p,p=L.length:=⟨_,rfl⟩
 have hpm:p≤9223372036854775807:=by rw[hp];have:=hL.fits;have:=hL.most;unfold maxLen at this;omega
 obtain ⟨W0,hW0,hB0,g0⟩:=zaf w 28 [.slice none 0 0,.slice none 0 0]
 have hzv:=zgc
 have hzi:=zv2
 have cn:=zob W0
 rw[← hp]
 obtain ⟨HW0,HG0,HL,HT,HP,HB0⟩:=zh6 hW0 g0 hL hT hp hB0
 clear hW0 hL hT hp hB0 g0
 go_enter Tryz.func9,Tryz.ntmps9
 go_wp2_with (rw[← uh HW0])
 refine cn.mono ?_
 rintro e w1 ⟨sb,mb,rfl,hS1,g1⟩
 obtain ⟨W2,hW2,hB2,g2⟩:=zaf w1 28 [.slice none 0 0,.slice none 0 0]
 have G2:=tn (tn (uh HG0) g1) g2
 have cm:=ztg W2 ao ac L ((uh HL).kept G2) ((uh HT).kept0 G2)
 rw[← uh HP] at cm
 obtain ⟨HW2,HG2⟩:=zh2 hW2 G2
 have HS2:=hide (hS1.none g2)
 have HB2:=hide hB2
 have HBR:=hide (((uh HB0).kept g1 (by simp)).kept g2 (by simp))
 have HL1:Hid (w.heap.size<w1.heap.size):=Nat.lt_of_lt_of_le (uh HB0).lt g1.size
 clear cn hS1 g1 hW2 hB2 g2 G2
 go_wp2_with (rw[← uh HW2])
 refine cm.mono ?_
 rintro e w3 ⟨v7,v8,R,rfl,hM3,hR24,hRp,g3⟩
 have hS3:=(uh HS2).none g3
 have hB3:=(uh HB2).kept g3 (by simp)
 have hBR3:=(uh HBR).kept g3 (by simp)
 have G3:=tn (uh HG2) g3
 obtain ⟨oa,oc,e7,hob⟩:=hM3.objs.open
 have hIr:w3.ownsRow W2.heap.size 33 32 v8 (R.map idR).length ((R.map idR).flatMap (·.map bv)):=by simpa using hM3.ids
 obtain ⟨ia,ic,e8,hI8⟩:=Ids.own hIr (fun x hx=>by obtain ⟨r,_,rfl⟩:=List.mem_map.1 hx;exact zks r)
 rw[List.length_map] at e8
 obtain ⟨n,hn⟩:∃ n,n=R.length:=⟨_,rfl⟩
 rw[← hn] at e7 e8
 subst e7 e8
 obtain ⟨HM3,HS3,HB3,HBR3,HG3,HN⟩:=zh6 hM3 hS3 hB3 hBR3 G3 hn
 have hn24:n≤24:=by omega
 have hnp:n≤p:=by rw[hn];exact hRp
 have HWW:Hid (w.heap.size≤W2.heap.size):=(uh HG2).size
 clear cm hM3 hS3 hB3 hBR3 G3 hob hIr hI8 hn hRp hR24 g3
 go_wp2
 go_loopw [9,10,11,12,13,14] (fun i _x10 _x11 _x12 _x13 _x14 wr=>∃ (j:Nat) (S:List ObE) (a1 a2:Option Addr) (n1 n2 c1 c2:Nat),i = .int .i64 j∧j≤n∧S.length≤j∧SetAt W0 wr sb mb S∧Blk wr w1.heap.size 28 [.slice a1 n1 c1,.slice a2 n2 c2]∧Blk wr w.heap.size 28 [.slice none 0 0,.slice none 0 0]∧RSet wr W0.heap.size (.slice a1 n1 c1) (.slice a2 n2 c2) S∧MadeG wr W2.heap.size (.slice oa n oc) (.slice ia n ic) R∧w.grownBy wr none) (fun i _ _ _ _ _ _=>n - (intOf i).toNat)
 case atStart=>exact ⟨0,[],none,none,0,0,0,0,rfl,Nat.zero_le _,Nat.zero_le _,uh HS3,uh HB3,uh HBR3,RSet.nil _ _,uh HM3,uh HG3⟩
 case round =>
  obtain ⟨j,S,a1,a2,n1,n2,c1,c2,rfl,hjn,hSj,hS,hB,hBR,hR,hM,hg⟩:=hrel
  obtain ⟨WR,hWR⟩:∃ V,V=wr:=⟨_,rfl⟩
  subst hWR
  by_cases hlt:j<n
  ·have hjL:j<L.length:=by rw[← uh HP];omega
   have hjR:j<R.length:=by rw[← uh HN];exact hlt
   obtain ⟨pb,pf,hao,hrow,-,-⟩:=((uh HL).kept hg).at j hjL
   obtain ⟨gb,hgb⟩:∃ b,b=L[j].gone:=⟨_,rfl⟩
   have hcg:WR.cell? ⟨pb,pf+j*4+3,none⟩=some (.bool gb):=by rw[hgb];exact hrow 3 _ rfl
   clear hrow hjL hgb
   have hjp:j<p:=by omega
   have hjw:IntKind.i64.wrap ((j:Int)+1)=(j:Int)+1:=by rw[IntKind.wrap_i64];omega
   cases gb with
   | true =>
    subst hao
    go_wp2
    go_roundw
    case rel=>exact ⟨j+1,S,a1,a2,n1,n2,c1,c2,by go_num,by omega,by omega,hS,hB,hBR,hR,hM,hg⟩
    case measure=>simp[intOf];omega
   | false =>
    obtain ⟨rr,hrr⟩:∃ r,r=R[j]:=⟨_,rfl⟩
    have hDr:Dat WR rr.ao rr.c rr.data:=by rw[hrr];exact ⟨hM.objs.bts _ (List.getElem_mem hjR),hM.objs.typ _ (List.getElem_mem hjR)⟩
    have hsm:rr.data.length≤16384:=by rw[hrr];exact hM.small _ (List.getElem_mem hjR)
    obtain ⟨oa9,oc9,e9,hob⟩:=hM.objs.open
    have hee:oa9=oa:=by injection e9 with x y z;exact x.symm
    subst hee
    obtain ⟨ob,of,hoa,hk1,hk2⟩:=hob j hjR
    rw[← hrr] at hk1 hk2
    obtain ⟨kk,d,oo,cc,rfl⟩:∃ kk d oo cc,rr=⟨kk,d,oo,cc⟩:=⟨rr.kind,rr.data,rr.ao,rr.c,rfl⟩
    simp only at hDr hsm hk1 hk2
    obtain ⟨dn,hdn⟩:∃ n,n=d.length:=⟨_,rfl⟩
    rw[← hdn] at hk2
    obtain ⟨OC,hOC⟩:∃ C,C=[Value.int .i64 (kk:Int),Value.slice oo dn cc]:=⟨_,rfl⟩
    have hro0:WR.rangeAt ob (of+j*2) OC:=by
     rw[hOC]
     intro m v hv
     match m,hv with
     | 0,hv=>simp at hv;subst hv;simpa using hk1
     | 1,hv=>simp at hv;subst hv;simpa using hk2
    have hiO:(Tryz.prog.info? 42).map (·.size)=some OC.length:=by rw[hOC];exact zaq
    have cp:=zv1 W0 WR sb mb S hS (kk:Int) oo cc d hDr (by omega) ((uh HT).kept0 hg)
    rw[← hdn] at cp
    have hOa:Value.agg OC.toArray = .agg #[.int .i64 (kk:Int),.slice oo dn cc]:=by rw[hOC]
    rw[← hOa] at cp
    obtain ⟨HOa,HOC⟩:=zh2 hOa hOC
    have HRR:Hid (∀ h:j<R.length,idR (R[j]'h)=shaL (putL (kk:Int) d)):=fun h=>by rw[← hrr];rfl
    obtain ⟨HIO,HRO,HJR,HDR,HSM,HDN⟩:=zh6 hiO hro0 hjR hDr hsm hdn
    obtain ⟨HS,HB,HBR,HR,HM,HG⟩:=zh6 hS hB hBR hR hM hg
    clear hOC hOa hrr hk1 hk2 hob e9 hro0 hDr hsm hdn hS hB hBR hR hM hg hjR hiO
    subst hao hoa
    go_upto_region 9 with (first
     | (refine wpList_load_mid rfl 42 _ rfl ob (of+j*2) rfl OC _ (uh HRO) Tryz.underlying42 rfl (uh HIO) ?_)
     | (go_at_call 32;refine cp.mono ?_;rintro e w4 ⟨x,y,rfl,hx32,hy,hxe,hS4,g4⟩;clear cp;obtain ⟨KB,hKB⟩:∃ KB,KB=x.map bv:=⟨_,rfl⟩;rw[show keyV x = .agg KB.toArray from congrArg (fun l=>Value.agg (List.toArray l)) hKB.symm];obtain ⟨W4,hW4,hI4,gi4⟩:=zbb w4 33 (zz32.map bv).toArray KB;have hKl:KB.length=32:=(congrArg List.length hKB).trans ((List.length_map _).trans hx32);have HW4:=hide hW4;have HIK2:Hid ((Tryz.prog.info? 33).map (·.size)=some KB.toArray.size):=(show _=some KB.toArray.size from (by rw[show KB.toArray.size=32 from (List.size_toArray ..).trans hKl];exact zar));have HKO:Hid (KB.toArray.all (·.oneCell')=true):=(by rw[hKB];exact zyu x);have HZS:Hid ((zz32.map bv).toArray.size=KB.toArray.size):=(show _=_ from (by rw[show KB.toArray.size=32 from (List.size_toArray ..).trans hKl];rfl));have HNB:=hide (show Blk (w4.alloc (.cells (zz32.map bv).toArray 33)) w4.heap.size 33 (zz32.map bv) from Blk.new w4 33 (zz32.map bv));have HKBq:=hide hKB;have HYq:=hide hy;have HXEq:=hide hxe;have HX32q:=hide hx32;have HKLq:=hide hKl;clear hW4 hKB hy hxe hx32 hKl)
     | (refine wpList_store_row rfl 33 _ _ rfl w4.heap.size _ rfl rfl _ _ (uh HNB) (uh HIK2) (uh HZS) (uh HKO) ?_;rw[← uh HW4]))
    have hKB:=uh HKBq
    have hy:=uh HYq
    have hxe:=uh HXEq
    have hx32:=uh HX32q
    have hKl:=uh HKLq
    have hM4:=((uh HM).setk (uh HS) g4).none gi4
    have hR4:=((uh HR).setk (uh HS) g4).kept gi4
    have hB4:=((uh HB).setk (uh HS) g4).kept gi4 (by simp)
    have hBR4:=((uh HBR).setk (uh HS) g4).kept gi4 (by simp)
    have hS5:=hS4.none gi4
    have hG4:w.grownBy W4 none:=tn (zac (uh HG) g4 (fun z e=>by cases e;exact Or.inl (Nat.le_trans (uh HG0).size hS4.nm))) gi4
    have hD4:=((uh HDR).kept g4 (fun z e=>by cases e;exact (uh HS).typ)).none gi4
    have hrs:=zak hB4
    have hro:W4.rangeAt ob (of+j*2) OC:=by
     obtain ⟨oa2,oc2,e2,hob2⟩:=hM4.objs.open
     obtain ⟨ob2,of2,h1,h2,h3⟩:=hob2 j (uh HJR)
     have e3:some (⟨ob,of,none⟩:Addr)=oa2:=by injection e2
     rw[← e3] at h1
     injection h1 with h1
     injection h1 with q1 q2
     subst q1 q2
     have hr0:=uh HRO
     rw[uh HOC] at hr0 ⊢
     have z1:=hr0 0 _ rfl
     have z2:=hr0 1 _ rfl
     obtain ⟨oa5,oc5,e5,hob5⟩:=(uh HM).objs.open
     obtain ⟨ob5,of5,k1,k2,k3⟩:=hob5 j (uh HJR)
     have e6:some (⟨ob,of,none⟩:Addr)=oa5:=by injection e5
     rw[← e6] at k1
     injection k1 with k1
     injection k1 with r1 r2
     subst r1 r2
     rw[Nat.add_zero] at z1
     rw[k2] at z1
     rw[k3] at z2
     injection z1 with z1
     injection z2 with z2
     intro m v hv
     match m,hv with
     | 0,hv=>simp at hv;subst hv;rw[Nat.add_zero,h2,z1]
     | 1,hv=>simp at hv;subst hv;rw[h3,z2]
    have hown:∀ V,W4.grownBy V none→Calls Tryz.prog 16 #[.agg OC.toArray] V fun e w'=>e = .returned (.agg #[.int .i64 (kk:Int),.string (str d)])∧V.grownBy w' none:=fun V gV=>by
     have:=zu8 V (kk:Int) oo cc d (hD4.none gV).bts
     rw[← uh HDN,← uh HOa] at this
     exact this
    have hrput:∀ V,W4.grownBy V none→Calls Tryz.prog 36 #[.agg #[.slice a1 n1 c1,.slice a2 n2 c2],.agg #[.int .i64 (kk:Int),.string (str d)]] V fun e w'=>∃ (b1 b2:Option Addr) (m1 m2 d1 d2:Nat) (X:List UInt8),e = .returned (.tuple #[.agg #[.slice b1 m1 d1,.slice b2 m2 d2],.string (str X),.int .i64 y])∧(y=0→X=shaL (putL (kk:Int) d))∧RSet w' W0.heap.size (.slice b1 m1 d1) (.slice b2 m2 d2) (putC S (kk:Int) d)∧V.grownBy w' none:=fun V gV=>by
     rw[hy]
     exact zth V W0.heap.size _ _ S (hR4.kept gV) (by omega) (Nat.le_trans hS4.ns (Nat.le_trans (Nat.le_of_lt hS5.blk.lt) gV.size)) (kk:Int) d (by have:=uh HSM;omega)
    have hcv:∀ V,W4.grownBy V none→(convert 37 9 (.slice (some ⟨w4.heap.size,0,none⟩) 32 32)).run Tryz.prog V = .ok (.string (str x)) V:=fun V gV=>by
     have hq:=zae (zak hI4) gV (by simp)
     rw[hKB] at hq
     have:=za2 (zdb hq (by rw[hx32];unfold maxLen;omega))
     rw[hx32] at this
     exact this
    obtain ⟨HOWN,HRPUT,HCV4,HM4,HB4,HBR4⟩:=zh6 hown hrput hcv hM4 hB4 hBR4
    obtain ⟨HS5,HG4,HI4,HXE,HX32,HKB⟩:=zh6 hS5 hG4 hI4 hxe hx32 hKB
    have HKL:=hide hKl
    have HBL:Hid (w1.heap.size<W4.heap.size):=hB4.lt
    have HI4L:Hid (w4.heap.size<W4.heap.size):=hI4.lt
    clear hM4 hR4 hB4 hBR4 hS5 hG4 hD4 hown hrput hcv hI4 hxe hx32 hKB hKl hy hS4 g4 gi4
    (try simp only[Act.put])
    go_cut [12,13,14] (fun x12 x13 x14 wx=>∃ (p12:Nat) (b1 b2:Option Addr) (m1 m2 d1 d2:Nat) (X:List UInt8),x12 = .pointer (some ⟨p12,0,none⟩)∧x13 = .string (str X)∧x14 = .int .i64 y∧(y=0→X=shaL (putL (kk:Int) d))∧Blk wx p12 28 [.slice b1 m1 d1,.slice b2 m2 d2]∧W4.heap.size≤p12∧RSet wx W0.heap.size (.slice b1 m1 d1) (.slice b2 m2 d2) (putC S (kk:Int) d)∧W4.grownBy wx none)
    case first =>
     as_aux_lemma =>
     have h0:W4.grownBy W4.drew none:=zaj (zaa _ _)
     refine wp_region_noPanic ?_
     refine wp_region_held_drew (S:=fun V=>W4.grownBy V none) (by kernel_rfl) h0 (fun _ => ?_)
     obtain ⟨WD,hWD⟩:∃ V,V=W4.drew:=⟨_,rfl⟩
     rw[← hWD]
     rw[← hWD] at h0
     clear hWD
     refine tz 0 42 (.load 28 (.tmp 6)) (.agg [Value.slice a1 n1 c1,Value.slice a2 n2 c2].toArray) h0 ?_ (y:=(yieldsIf_load_mid (by rfl) _ _ rfl _ _ rfl [Value.slice a1 n1 c1,Value.slice a2 n2 c2] _ (fun V hV=>zae hrs hV (by simp)) Tryz.underlying28 rfl za3))
     refine tq 1 43 (.move (.tmp 7)) (.slice (some ⟨ob,of,none⟩) n oc) h0 ?_
     refine tq 2 44 (.move (.tmp 9)) (.int .i64 (j:Int)) h0 ?_
     refine tq 3 45 (.indexAddr 78 (.tmp 43) (.tmp 44)) (.pointer (some ⟨ob,of+j*2,none⟩)) h0 ?_
     (try simp only[pq])
     refine tz 4 46 (.load 42 (.tmp 45)) (.agg OC.toArray) h0 ?_ (y:=(yieldsIf_load_mid (by rfl) _ _ rfl _ _ rfl OC _ (fun V hV=>zae hro hV (by simp)) Tryz.underlying42 rfl (uh HIO)))
     (try simp only[pq])
     refine wpAnyH_ready (rs:=[5,11]) (by kernel_rfl) (by simp) ?_
     refine AllReadyH.cons (o:=⟨some 47,.call { callee := .value (.func 16),args := #[(.tmp 46)],argTypes := #[42] },_,_,_,_⟩) rfl (fun K9 hK9 => ?_) (AllReadyH.cons (o:=⟨some 12,.alloc 28,_,_,_,_⟩) rfl (fun K9 hK9 => ?_) AllReadyH.nil)
     ·go_simp
      go_at_call 16
      refine (uh HOWN WD h0).mono ?_
      rintro e wo ⟨rfl,go⟩
      go_wp2_with fail
      have ho:=tn h0 go
      refine hK9.out _ _ ho (fun _ => ?_)
      clear hK9 K9 go
      (try simp only[pq])
      refine wpAnyH_ready (rs:=[6,11]) (by kernel_rfl) (by simp) ?_
      refine AllReadyH.cons (o:=⟨some 48,.call { callee := .value (.func 36),args := #[(.tmp 42),(.tmp 47)],argTypes := #[28,47] },_,_,_,_⟩) rfl (fun K9 hK9 => ?_) (AllReadyH.cons (o:=⟨some 12,.alloc 28,_,_,_,_⟩) rfl (fun K9 hK9 => ?_) AllReadyH.nil)
      ·go_simp
       go_at_call 36
       refine (uh HRPUT wo ho).mono ?_
       rintro e wp ⟨b1,b2,m1,m2,d1,d2,X,rfl,hX,hR5,gp⟩
       obtain ⟨TX,hTX⟩:∃ T,T=str X:=⟨_,rfl⟩
       rw[← hTX]
       go_wp2_with fail
       have hp:=tn ho gp
       refine hK9.out _ _ hp (fun _ => ?_)
       clear hK9 K9 gp
       refine tq 7 41 (.move (.tmp 48)) (.tuple #[.agg #[.slice b1 m1 d1,.slice b2 m2 d2],.string TX,.int .i64 y]) hp ?_
       refine tq 8 49 (.extract (.tmp 41) 0) (.agg #[.slice b1 m1 d1,.slice b2 m2 d2]) hp ?_
       refine tq 9 50 (.extract (.tmp 41) 1) (.string TX) hp ?_
       (try simp only[pq])
       refine tq 10 51 (.extract (.tmp 41) 2) (.int .i64 y) hp ?_
       (try simp only[pq])
       refine rd 11 (some 12) (.alloc 28) (fun K9 hK9 => ?_)
       obtain ⟨wa,hwa,hB12,ga⟩:=zaf wp 28 [.slice none 0 0,.slice none 0 0]
       go_simp
       rw[← hwa]
       have ha:=tn hp ga
       have hp12:W4.heap.size≤wp.heap.size:=(hp).size
       replace hR5:=hR5.kept ga
       refine hK9.out _ _ ha (fun _ => ?_)
       clear hK9 K9 hwa ga
       (try simp only[pq])
       refine rd 12 none (.store 28 (.tmp 12) (.tmp 49)) (fun K9 hK9 => ?_)
       rw[if_pos (by rfl)]
       refine wp_store_row _ _ _ rfl (wp.heap.size) _ rfl rfl _ _ hB12 za3 rfl (zcd _ _ _ _ _ _) ?_
       have h9:=zan ha #[.slice b1 m1 d1,.slice b2 m2 d2] (Or.inl hp12)
       have gr9:wa.grownBy (wa.setRow (wp.heap.size) #[.slice b1 m1 d1,.slice b2 m2 d2]) (some (wp.heap.size)):=zan (zaa _ _) _ (Or.inr rfl)
       have hR9:RSet _ W0.heap.size (.slice b1 m1 d1) (.slice b2 m2 d2) (putC S (kk:Int) d):=⟨World.ownsRow.kept hR5.ids gr9 (Or.inr fun e=>zai hR5.ids hB12 (by decide) e.symm),World.ownsRow.kept hR5.obs gr9 (Or.inr fun e=>zai hR5.obs hB12 (by decide) e.symm)⟩
       have hB9:=hB12.row [.slice b1 m1 d1,.slice b2 m2 d2]
       refine hK9.out _ _ h9 (fun _ => ?_)
       clear hK9 K9
       (try simp only[Act.put])
       refine tq 13 13 (.assign (.tmp 50)) (.string TX) h9 ?_
       refine tq 14 14 (.assign (.tmp 51)) (.int .i64 y) h9 ?_
       (try simp only[pq])
       refine wpAnyH_done (by kernel_rfl) ?_ _
       refine NoPanic.normal ?_
       go_wp2_with fail
       go_meet
       case rel=>exact ⟨wp.heap.size,b1,b2,m1,m2,d1,d2,X,rfl,(by rw[hTX]),rfl,hX,hB9,hp12,hR9,h9⟩
      ·obtain ⟨wa,hwa,hB12,ga⟩:=zaf wo 28 [.slice none 0 0,.slice none 0 0]
       go_simp
       rw[← hwa]
       have ha:=tn ho ga
       have hp12:W4.heap.size≤wo.heap.size:=(ho).size
       refine hK9.out _ _ ha (fun _ => ?_)
       clear hK9 K9 hwa ga
       (try simp only[pq])
       refine rd 6 (some 48) (.call { callee := .value (.func 36),args := #[(.tmp 42),(.tmp 47)],argTypes := #[28,47] }) (fun K9 hK9 => ?_)
       go_simp
       go_at_call 36
       refine (uh HRPUT wa ha).mono ?_
       rintro e wp ⟨b1,b2,m1,m2,d1,d2,X,rfl,hX,hR5,gp⟩
       obtain ⟨TX,hTX⟩:∃ T,T=str X:=⟨_,rfl⟩
       rw[← hTX]
       go_wp2_with fail
       have hp:=tn ha gp
       replace hB12:=hB12.kept gp (by simp)
       refine hK9.out _ _ hp (fun _ => ?_)
       clear hK9 K9 gp
       refine tq 7 41 (.move (.tmp 48)) (.tuple #[.agg #[.slice b1 m1 d1,.slice b2 m2 d2],.string TX,.int .i64 y]) hp ?_
       refine tq 8 49 (.extract (.tmp 41) 0) (.agg #[.slice b1 m1 d1,.slice b2 m2 d2]) hp ?_
       refine tq 9 50 (.extract (.tmp 41) 1) (.string TX) hp ?_
       (try simp only[pq])
       refine tq 10 51 (.extract (.tmp 41) 2) (.int .i64 y) hp ?_
       (try simp only[pq])
       refine rd 12 none (.store 28 (.tmp 12) (.tmp 49)) (fun K9 hK9 => ?_)
       rw[if_pos (by rfl)]
       refine wp_store_row _ _ _ rfl (wo.heap.size) _ rfl rfl _ _ hB12 za3 rfl (zcd _ _ _ _ _ _) ?_
       have h9:=zan hp #[.slice b1 m1 d1,.slice b2 m2 d2] (Or.inl hp12)
       have gr9:wp.grownBy (wp.setRow (wo.heap.size) #[.slice b1 m1 d1,.slice b2 m2 d2]) (some (wo.heap.size)):=zan (zaa _ _) _ (Or.inr rfl)
       have hR9:RSet _ W0.heap.size (.slice b1 m1 d1) (.slice b2 m2 d2) (putC S (kk:Int) d):=⟨World.ownsRow.kept hR5.ids gr9 (Or.inr fun e=>zai hR5.ids hB12 (by decide) e.symm),World.ownsRow.kept hR5.obs gr9 (Or.inr fun e=>zai hR5.obs hB12 (by decide) e.symm)⟩
       have hB9:=hB12.row [.slice b1 m1 d1,.slice b2 m2 d2]
       refine hK9.out _ _ h9 (fun _ => ?_)
       clear hK9 K9
       (try simp only[Act.put])
       refine tq 13 13 (.assign (.tmp 50)) (.string TX) h9 ?_
       refine tq 14 14 (.assign (.tmp 51)) (.int .i64 y) h9 ?_
       (try simp only[pq])
       refine wpAnyH_done (by kernel_rfl) ?_ _
       refine NoPanic.normal ?_
       go_wp2_with fail
       go_meet
       case rel=>exact ⟨wo.heap.size,b1,b2,m1,m2,d1,d2,X,rfl,(by rw[hTX]),rfl,hX,hB9,hp12,hR9,h9⟩
     ·obtain ⟨wa,hwa,hB12,ga⟩:=zaf WD 28 [.slice none 0 0,.slice none 0 0]
      go_simp
      rw[← hwa]
      have ha:=tn h0 ga
      have hp12:W4.heap.size≤WD.heap.size:=(h0).size
      refine hK9.out _ _ ha (fun _ => ?_)
      clear hK9 K9 hwa ga
      (try simp only[pq])
      refine rd 5 (some 47) (.call { callee := .value (.func 16),args := #[(.tmp 46)],argTypes := #[42] }) (fun K9 hK9 => ?_)
      go_simp
      go_at_call 16
      refine (uh HOWN wa ha).mono ?_
      rintro e wo ⟨rfl,go⟩
      go_wp2_with fail
      have ho:=tn ha go
      replace hB12:=hB12.kept go (by simp)
      refine hK9.out _ _ ho (fun _ => ?_)
      clear hK9 K9 go
      (try simp only[pq])
      refine rd 6 (some 48) (.call { callee := .value (.func 36),args := #[(.tmp 42),(.tmp 47)],argTypes := #[28,47] }) (fun K9 hK9 => ?_)
      go_simp
      go_at_call 36
      refine (uh HRPUT wo ho).mono ?_
      rintro e wp ⟨b1,b2,m1,m2,d1,d2,X,rfl,hX,hR5,gp⟩
      obtain ⟨TX,hTX⟩:∃ T,T=str X:=⟨_,rfl⟩
      rw[← hTX]
      go_wp2_with fail
      have hp:=tn ho gp
      replace hB12:=hB12.kept gp (by simp)
      refine hK9.out _ _ hp (fun _ => ?_)
      clear hK9 K9 gp
      refine tq 7 41 (.move (.tmp 48)) (.tuple #[.agg #[.slice b1 m1 d1,.slice b2 m2 d2],.string TX,.int .i64 y]) hp ?_
      refine tq 8 49 (.extract (.tmp 41) 0) (.agg #[.slice b1 m1 d1,.slice b2 m2 d2]) hp ?_
      refine tq 9 50 (.extract (.tmp 41) 1) (.string TX) hp ?_
      (try simp only[pq])
      refine tq 10 51 (.extract (.tmp 41) 2) (.int .i64 y) hp ?_
      (try simp only[pq])
      refine rd 12 none (.store 28 (.tmp 12) (.tmp 49)) (fun K9 hK9 => ?_)
      rw[if_pos (by rfl)]
      refine wp_store_row _ _ _ rfl (WD.heap.size) _ rfl rfl _ _ hB12 za3 rfl (zcd _ _ _ _ _ _) ?_
      have h9:=zan hp #[.slice b1 m1 d1,.slice b2 m2 d2] (Or.inl hp12)
      have gr9:wp.grownBy (wp.setRow (WD.heap.size) #[.slice b1 m1 d1,.slice b2 m2 d2]) (some (WD.heap.size)):=zan (zaa _ _) _ (Or.inr rfl)
      have hR9:RSet _ W0.heap.size (.slice b1 m1 d1) (.slice b2 m2 d2) (putC S (kk:Int) d):=⟨World.ownsRow.kept hR5.ids gr9 (Or.inr fun e=>zai hR5.ids hB12 (by decide) e.symm),World.ownsRow.kept hR5.obs gr9 (Or.inr fun e=>zai hR5.obs hB12 (by decide) e.symm)⟩
      have hB9:=hB12.row [.slice b1 m1 d1,.slice b2 m2 d2]
      refine hK9.out _ _ h9 (fun _ => ?_)
      clear hK9 K9
      (try simp only[Act.put])
      refine tq 13 13 (.assign (.tmp 50)) (.string TX) h9 ?_
      refine tq 14 14 (.assign (.tmp 51)) (.int .i64 y) h9 ?_
      (try simp only[pq])
      refine wpAnyH_done (by kernel_rfl) ?_ _
      refine NoPanic.normal ?_
      go_wp2_with fail
      go_meet
      case rel=>exact ⟨WD.heap.size,b1,b2,m1,m2,d1,d2,X,rfl,(by rw[hTX]),rfl,hX,hB9,hp12,hR9,h9⟩
    case rest =>
     obtain ⟨p12,b1,b2,m1,m2,d1,d2,X,rfl,rfl,rfl,hXe,hB12,hp12,hR5,hg5⟩:=hcut
     obtain ⟨W5,hW5⟩:∃ W,W=wc:=⟨_,rfl⟩
     rw[← hW5]
     rw[← hW5] at hB12 hR5 hg5
     clear hW5 hrs hro HOWN HRPUT
     obtain ⟨HR5,HB12,HG5,HXe⟩:=zh4 hR5 hB12 hg5 hXe
     clear hR5 hB12 hXe
     go_upto_region 10 with fail
     go_cut [72] (fun x72 wx=>x72 = .bool false∧wx=W5.drew)
     case first =>
      as_aux_lemma =>
      by_cases hy0:y=0
      ·subst hy0
       have hxx:x=X:=(uh HXE rfl).trans (uh HXe rfl).symm
       subst hxx
       obtain ⟨TX,hTX⟩:∃ T,T=str x:=⟨_,rfl⟩
       rw[← hTX]
       obtain ⟨ib,hib⟩:∃ b,b=w4.heap.size:=⟨_,rfl⟩
       have HCV:Hid (∀ V,W5.grownBy V none→(convert 37 9 (.slice (some ⟨ib,0,none⟩) 32 32)).run Tryz.prog V = .ok (.string TX) V):=fun V gV=>by rw[hTX,hib];exact uh HCV4 V (tn hg5 gV)
       have hrb:W5.rangeAt ib 0 KB:=by rw[hib];exact zae (zak (uh HI4)) hg5 (by simp)
       have hIr:W5.ownsRow W2.heap.size 33 32 (.slice ia n ic) (R.map idR).length ((R.map idR).flatMap (·.map bv)):=by
        have:=((uh HM4).none hg5).ids
        simpa using this
       obtain ⟨ia9,ic9,e9,hI9⟩:=Ids.own hIr (fun z hz=>by obtain ⟨r,_,rfl⟩:=List.mem_map.1 hz;exact zks r)
       have hia:ia9=ia:=by injection e9 with q1 q2 q3;exact q1.symm
       subst hia
       have hjI:j<(R.map idR).length:=by rw[List.length_map];exact uh HJR
       obtain ⟨jb,jf,hja,hrowj⟩:=hI9.at j hjI
       have hrj:=hrowj j hjI
       rw[show (R.map idR)[j]=x from (List.getElem_map ..).trans ((uh HRR (uh HJR)).trans (uh HXE rfl).symm),← uh HKB] at hrj
       have hiK:(Tryz.prog.info? 33).map (·.size)=some KB.length:=by rw[uh HKL];exact zar
       have HIK:=hide hiK
       have HNE:Hid (∀ V,(binOp .neq 33 (.agg KB.toArray) (.agg KB.toArray)).run Tryz.prog V = .ok (.bool false) V):=fun V=>by rw[uh HKB,zm8 x x (uh HX32) (uh HX32)];simp
       rw[← hib]
       obtain ⟨HTX9,HIB9⟩:=zh2 hTX hib
       clear hIr hI9 e9 hjI hrowj hTX hib hiK
       subst hja
       have h0:W5.grownBy W5.drew none:=zaj (zaa _ _)
       refine wp_region_noPanic ?_
       refine wp_region_held_drew (S:=fun V=>W5.grownBy V none) (by kernel_rfl) h0 (fun _ => ?_)
       refine tq 0 52 (.move (.tmp 11)) (.int .i64 0) h0 ?_
       refine tq 1 53 (.move (.tmp 14)) (.int .i64 0) h0 ?_
       refine tq 2 54 (.binOp .neq 3 (.tmp 52) (.tmp 53) 3) (.bool false) h0 ?_
       refine tq 3 55 (.move (.tmp 54)) (.bool false) h0 ?_
       (try simp only[pq])
       refine tq 4 56 (.move (.tmp 11)) (.int .i64 0) h0 ?_
       refine tq 5 57 (.binOp .eql 38 (.tmp 56) (.const (.int .i64 0)) 38) (.bool true) h0 ?_
       refine tq 6 58 (.move (.tmp 57)) (.bool true) h0 ?_
       refine tz 7 59 (.slice 33 (.tmp 10) none none none) (.slice (some ⟨ib,0,none⟩) 32 32) h0 ?_ (y:=(Or.inl ⟨by rfl,fun V hV=>by (have z9:=zdc ib 0;go_simp)⟩))
       (try simp only[pq])
       refine tz 8 60 (.convert 37 9 (.tmp 59)) (.string TX) h0 ?_ (y:=(Or.inl ⟨by rfl,fun V hV=>by (have z9:=uh HCV V hV;go_simp)⟩))
       refine tq 9 61 (.move (.tmp 13)) (.string TX) h0 ?_
       refine tq 10 62 (.binOp .neq 9 (.tmp 60) (.tmp 61) 9) (.bool false) h0 ?_
       refine tq 11 63 (.move (.tmp 62)) (.bool false) h0 ?_
       (try simp only[pq])
       refine tz 12 64 (.load 33 (.tmp 10)) (.agg KB.toArray) h0 ?_ (y:=(yieldsIf_load_mid (by rfl) _ _ rfl _ _ rfl KB _ (fun V hV=>zae hrb hV (by simp)) Tryz.underlying33 rfl (uh HIK)))
       refine tq 13 65 (.move (.tmp 8)) (.slice (some ⟨jb,jf,none⟩) n ic) h0 ?_
       refine tq 14 66 (.move (.tmp 9)) (.int .i64 (j:Int)) h0 ?_
       refine tq 15 67 (.indexAddr 29 (.tmp 65) (.tmp 66)) (.pointer (some ⟨jb,jf+j*32,none⟩)) h0 ?_
       (try simp only[pq])
       refine tz 16 68 (.load 33 (.tmp 67)) (.agg KB.toArray) h0 ?_ (y:=(yieldsIf_load_mid (by rfl) _ _ rfl _ _ rfl KB _ (fun V hV=>zae hrj hV (by simp)) Tryz.underlying33 rfl (uh HIK)))
       refine tz 17 69 (.binOp .neq 33 (.tmp 64) (.tmp 68) 33) (.bool false) h0 ?_ (y:=(zel (by rfl) _ _ _ _ rfl _ _ _ rfl rfl zdi (uh HNE)))
       refine tq 18 70 (.pick (.tmp 63) (.const (.bool true)) (.tmp 69)) (.bool false) h0 ?_
       refine tq 19 71 (.pick (.tmp 58) (.tmp 70) (.const (.bool false))) (.bool false) h0 ?_
       (try simp only[pq])
       refine tq 20 72 (.pick (.tmp 55) (.const (.bool true)) (.tmp 71)) (.bool false) h0 ?_
       (try simp only[pq])
       refine wpAnyH_done (by kernel_rfl) ?_ _
       refine NoPanic.normal ?_
       go_wp2_with fail
       rw[uh HTX9,uh HIB9]
       go_meet
       case rel=>exact ⟨rfl,rfl⟩
      ·have hyb:(y == 0)=false:=by simpa using hy0
       have h0:W5.grownBy W5.drew none:=zaj (zaa _ _)
       refine wp_region_noPanic ?_
       refine wp_region_held_drew (S:=fun V=>W5.grownBy V none) (by kernel_rfl) h0 (fun _ => ?_)
       refine tq 0 52 (.move (.tmp 11)) (.int .i64 y) h0 ?_
       refine tq 1 53 (.move (.tmp 14)) (.int .i64 y) h0 ?_
       refine tq 2 54 (.binOp .neq 3 (.tmp 52) (.tmp 53) 3) (.bool false) h0 ?_
       refine tq 3 55 (.move (.tmp 54)) (.bool false) h0 ?_
       (try simp only[pq])
       refine tq 4 56 (.move (.tmp 11)) (.int .i64 y) h0 ?_
       refine tq 5 57 (.binOp .eql 38 (.tmp 56) (.const (.int .i64 0)) 38) (.bool false) h0 ?_
       refine tq 6 58 (.move (.tmp 57)) (.bool false) h0 ?_
       refine tz 7 59 (.slice 33 (.tmp 10) none none none) undef h0 ?_ (y:=(Or.inr ⟨by rfl,rfl⟩))
       (try simp only[pq])
       refine tz 8 60 (.convert 37 9 (.tmp 59)) undef h0 ?_ (y:=(Or.inr ⟨by rfl,rfl⟩))
       refine tz 9 61 (.move (.tmp 13)) undef h0 ?_ (y:=(Or.inr ⟨by rfl,rfl⟩))
       refine tz 10 62 (.binOp .neq 9 (.tmp 60) (.tmp 61) 9) undef h0 ?_ (y:=(Or.inr ⟨by rfl,rfl⟩))
       refine tz 11 63 (.move (.tmp 62)) undef h0 ?_ (y:=(Or.inr ⟨by rfl,rfl⟩))
       (try simp only[pq])
       refine tz 12 64 (.load 33 (.tmp 10)) undef h0 ?_ (y:=(Or.inr ⟨by rfl,rfl⟩))
       refine tz 13 65 (.move (.tmp 8)) undef h0 ?_ (y:=(Or.inr ⟨by rfl,rfl⟩))
       refine tz 14 66 (.move (.tmp 9)) undef h0 ?_ (y:=(Or.inr ⟨by rfl,rfl⟩))
       refine tz 15 67 (.indexAddr 29 (.tmp 65) (.tmp 66)) undef h0 ?_ (y:=(Or.inr ⟨by rfl,rfl⟩))
       (try simp only[pq])
       refine tz 16 68 (.load 33 (.tmp 67)) undef h0 ?_ (y:=(Or.inr ⟨by rfl,rfl⟩))
       refine tz 17 69 (.binOp .neq 33 (.tmp 64) (.tmp 68) 33) undef h0 ?_ (y:=(Or.inr ⟨by rfl,rfl⟩))
       refine tz 18 70 (.pick (.tmp 63) (.const (.bool true)) (.tmp 69)) undef h0 ?_ (y:=(Or.inr ⟨by rfl,rfl⟩))
       refine tq 19 71 (.pick (.tmp 58) (.tmp 70) (.const (.bool false))) (.bool false) h0 ?_
       (try simp only[pq])
       refine tq 20 72 (.pick (.tmp 55) (.const (.bool true)) (.tmp 71)) (.bool false) h0 ?_
       (try simp only[pq])
       refine wpAnyH_done (by kernel_rfl) ?_ _
       refine NoPanic.normal ?_
       go_wp2_with fail
       go_meet
       case rel=>exact ⟨rfl,rfl⟩
     case rest =>
      as_aux_lemma =>
      obtain ⟨rfl,hwc⟩:=hcut
      rw[hwc]
      clear hwc
      have gd:=zaj (zaa W5 none)
      obtain ⟨W6,hW6⟩:∃ W,W=W5.drew:=⟨_,rfl⟩
      rw[← hW6]
      rw[← hW6] at gd
      clear hW6
      have hB12:=(uh HB12).kept gd (by simp)
      have hr12:=zak hB12
      have hg6:=tn (uh HG5) gd
      have hBr:=(uh HB4).kept hg6 (by simp)
      have hR6:=(uh HR5).kept gd
      have g7:W6.grownBy (W6.setRow w1.heap.size #[.slice b1 m1 d1,.slice b2 m2 d2]) (some w1.heap.size):=zan (zaa _ _) _ (Or.inr rfl)
      have hM6:=(uh HM4).none hg6
      have hS6:=(uh HS5).none hg6
      have hfin:SetAt W0 (W6.setRow w1.heap.size #[.slice b1 m1 d1,.slice b2 m2 d2]) sb mb (putC S (kk:Int) d)∧Blk (W6.setRow w1.heap.size #[.slice b1 m1 d1,.slice b2 m2 d2]) w1.heap.size 28 [.slice b1 m1 d1,.slice b2 m2 d2]∧Blk (W6.setRow w1.heap.size #[.slice b1 m1 d1,.slice b2 m2 d2]) w.heap.size 28 [.slice none 0 0,.slice none 0 0]∧RSet (W6.setRow w1.heap.size #[.slice b1 m1 d1,.slice b2 m2 d2]) W0.heap.size (.slice b1 m1 d1) (.slice b2 m2 d2) (putC S (kk:Int) d)∧MadeG (W6.setRow w1.heap.size #[.slice b1 m1 d1,.slice b2 m2 d2]) W2.heap.size (.slice (some ⟨ob,of,none⟩) n oc) (.slice ia n ic) R∧w.grownBy (W6.setRow w1.heap.size #[.slice b1 m1 d1,.slice b2 m2 d2]) none:=by
       have hty:¬ Typ W6 w1.heap.size:=zg1 hBr (by decide)
       refine ⟨hS6.kept g7 (fun e=>zr8 hS6.blk hBr (by decide) (by injection e)) (fun e => ?_) (fun z e=>by cases e;exact hty),hBr.row [.slice b1 m1 d1,.slice b2 m2 d2],?_,⟨World.ownsRow.kept hR6.ids g7 (Or.inr fun e=>zai hR6.ids hBr (by decide) e.symm),World.ownsRow.kept hR6.obs g7 (Or.inr fun e=>zai hR6.obs hBr (by decide) e.symm)⟩,⟨⟨World.ownsRow.kept hM6.objs.own g7 (Or.inr fun e=>zai hM6.objs.own hBr (by decide) e.symm),fun r hr=>(hM6.objs.bts r hr).kept g7 (fun z e ad e2 e3=>by cases e;exact hty (by rw[← e3];exact hM6.objs.typ r hr ad e2)),fun r hr ad e=>(hM6.objs.typ r hr ad e).kept g7 (fun e2=>by injection e2 with e2;exact hty (by rw[← e2];exact hM6.objs.typ r hr ad e))⟩,World.ownsRow.kept hM6.ids g7 (Or.inr fun e=>zai hM6.ids hBr (by decide) e.symm),hM6.small⟩,zan (tn (uh HG4) hg6) _ (Or.inl (Nat.le_of_lt (uh HL1)))⟩
       ·obtain ⟨_,m1',_⟩:=hS6.map
        exact m1'.blk hBr (by injection e)
       ·exact ((uh HBR4).kept hg6 (by simp)).kept g7 (fun e=>by injection e with e;have:=uh HL1;omega)
      obtain ⟨HFIN,HBr⟩:=zh2 hfin hBr
      clear hfin hM6 hS6 hR6 g7 hg6 hB12
      go_wp2_with (first
       | (refine wpList_load_mid rfl 28 _ rfl p12 0 rfl [.slice b1 m1 d1,.slice b2 m2 d2] _ hr12 Tryz.underlying28 rfl za3 ?_;clear hr12)
       | (refine wpList_store_row rfl 28 _ _ rfl w1.heap.size _ rfl rfl _ _ (uh HBr) za3 rfl (zcd _ _ _ _ _ _) ?_))
      go_roundw
      case rel =>
       obtain ⟨q1,q2,q3,q4,q5,q6⟩:=uh HFIN
       exact ⟨j+1,putC S (kk:Int) d,b1,b2,m1,m2,d1,d2,by go_num,by omega,by have:=zv0 S (kk:Int) d;omega,q1,q2,q3,q4,q5,q6⟩
      case measure=>simp[intOf];omega
  ·skip
   have hr9:WR.drew.rangeAt w1.heap.size 0 [Value.slice a1 n1 c1,Value.slice a2 n2 c2]:=zae (zak hB) (zaj (zaa WR none)) (by simp)
   have hBR9:=hBR.kept (zaj (zaa WR none)) (by simp)
   have gd:=zaj (zaa WR none)
   have g7:WR.drew.grownBy (WR.drew.setRow w.heap.size #[.slice a1 n1 c1,.slice a2 n2 c2]) (some w.heap.size):=zan (zaa _ _) _ (Or.inr rfl)
   have hS6:=hS.none gd
   have hR6:=hR.kept gd
   have hI6:WR.drew.ownsRow W2.heap.size 33 32 (.slice ia n ic) n ((R.map idR).flatMap (·.map bv)):=by rw[uh HN];have:=(hM.none gd).ids;rw[uh HN] at this;exact this
   have hfin:SetAt w (WR.drew.setRow w.heap.size #[.slice a1 n1 c1,.slice a2 n2 c2]) sb mb S∧RSet (WR.drew.setRow w.heap.size #[.slice a1 n1 c1,.slice a2 n2 c2]) w.heap.size (.slice a1 n1 c1) (.slice a2 n2 c2) S∧(WR.drew.setRow w.heap.size #[.slice a1 n1 c1,.slice a2 n2 c2]).ownsRow w.heap.size 33 32 (.slice ia n ic) n ((R.map idR).flatMap (·.map bv))∧w.grownBy (WR.drew.setRow w.heap.size #[.slice a1 n1 c1,.slice a2 n2 c2]) none∧Blk (WR.drew.setRow w.heap.size #[.slice a1 n1 c1,.slice a2 n2 c2]) w.heap.size 28 [.slice a1 n1 c1,.slice a2 n2 c2]:=by
    have hw0:=(uh HG0).size
    refine ⟨(hS6.kept g7 (fun e=>zr8 hS6.blk hBR9 (by decide) (by injection e)) (fun e => ?_) (fun z e=>by cases e;exact zg1 hBR9 (by decide))).up hw0,RSet.low ⟨World.ownsRow.kept hR6.ids g7 (Or.inr fun e=>zai hR6.ids hBR9 (by decide) e.symm),World.ownsRow.kept hR6.obs g7 (Or.inr fun e=>zai hR6.obs hBR9 (by decide) e.symm)⟩ hw0,za7 (World.ownsRow.kept hI6 g7 (Or.inr fun e=>zai hI6 hBR9 (by decide) e.symm)) (uh HWW),zan (tn hg gd) _ (Or.inl (Nat.le_refl _)),hBR9.row [.slice a1 n1 c1,.slice a2 n2 c2]⟩
    obtain ⟨_,m1',_⟩:=hS6.map
    exact m1'.blk hBR9 (by injection e)
   clear g7 hS6 hR6 hI6 gd hS hB hBR hR hM hg
   go_upto_region 13 with fail
   refine wp_region_noPanic ?_
   refine wp_region_held_drew (S:=fun V=>True) (by kernel_rfl) trivial (fun _ => ?_)
   obtain ⟨WD,hWD⟩:∃ V,V=WR.drew:=⟨_,rfl⟩
   rw[← hWD]
   rw[← hWD] at hr9 hBR9 hfin
   clear hWD
   refine tq 0 76 (.move (.tmp 5)) (.pointer (some ⟨sb,0,none⟩)) trivial ?_
   refine tq 2 78 (.move (.tmp 8)) (.slice ia n ic) trivial ?_
   refine tq 3 2 (.assign (.tmp 76)) (.pointer (some ⟨sb,0,none⟩)) trivial ?_
   (try simp only[pq])
   refine rd 1 (some 77) (.load 28 (.tmp 6)) (fun K9 hK9 => ?_)
   rw[if_pos (by rfl)]
   refine wp_load_mid _ _ rfl w1.heap.size 0 rfl [Value.slice a1 n1 c1,Value.slice a2 n2 c2] _ hr9 Tryz.underlying28 rfl za3 ?_
   refine hK9.out _ _ trivial (fun _ => ?_)
   clear hK9 K9
   (try simp only[pq])
   refine rd 4 none (.store 28 (.tmp 3) (.tmp 77)) (fun K9 hK9 => ?_)
   rw[if_pos (by rfl)]
   refine wp_store_row _ _ _ rfl w.heap.size _ rfl rfl _ _ hBR9 za3 rfl (zcd _ _ _ _ _ _) ?_
   refine hK9.out _ _ trivial (fun _ => ?_)
   clear hK9 K9
   (try simp only[Act.put])
   refine tq 5 4 (.assign (.tmp 78)) (.slice ia n ic) trivial ?_
   (try simp only[pq])
   refine wpAnyH_done (by kernel_rfl) ?_ _
   refine NoPanic.normal ?_
   obtain ⟨q1,q2,q3,q4,q5⟩:=hfin
   go_wp2_with fail
   refine bodyPost_ret (zis rfl _ _ _ _ _ _ _ rfl q5 Tryz.underlying28 rfl za3) rfl ?_
   refine ⟨sb,mb,a1,a2,ia,n1,n2,c1,c2,ic,S,R.map idR,?_,q1,q2,?_,fun x hx=>by obtain ⟨r,_,rfl⟩:=List.mem_map.1 hx;exact zks r,by rw[List.length_map,← uh HN];exact hn24,by omega,q4⟩
   ·rw[List.length_map,← uh HN];rfl
   ·rw[List.length_map,← uh HN];exact q3
end Go.Proofs.YthhnfloohbdaiaaGreatDoor
