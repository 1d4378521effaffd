/- Lemmas. -/
import Derived.Test.YthhnfloohbdaiaaGreatDoorGBuild
import Derived.ArgAppend
import Derived.Test.YthhnfloohbdaiaaGreatDoorGClo
import Derived.Test.YthhnfloohbdaiaaGreatDoorGOne
import Derived.Lib.SlBytesConst
import Derived.Deep.DeepCutAuto
namespace Go.Proofs.YthhnfloohbdaiaaGreatDoor
open Go.RowKit
structure BuiltS (w w' : World) (sb mb:Nat) (v1 v2 vi:Value) (S:List ObE) (I:List (List UInt8)):Prop where
 set:SetAt w w' sb mb S
 doc:RSet w' w.heap.size v1 v2 S
 own:w'.ownsRow w.heap.size 33 32 vi I.length (I.flatMap (·.map bv))
 wid:∀ x∈I,x.length=32
 few:I.length≤24
 sew:S.length≤24
 g:w.grownBy w' none
def zyt (w w' : World) (e:Ending):Prop:=∃ (sb mb:Nat) (a1 a2 ia:Option Addr) (n1 n2 c1 c2 ic:Nat) (S:List ObE) (I:List (List UInt8)),e = .returned (.tuple #[.pointer (some ⟨sb,0,none⟩),.agg #[.slice a1 n1 c1,.slice a2 n2 c2],.slice ia I.length ic])∧BuiltS w w' sb mb (.slice a1 n1 c1) (.slice a2 n2 c2) (.slice ia I.length ic) S I
structure Gk (w wr:World) (sb mb rb:Nat) (v1 v2:Value) (S:List ObE) (V:List (Value × List (List UInt8))):Prop where
 s:SetAt w wr sb mb S
 d:RSet wr w.heap.size v1 v2 S
 b:Blk wr rb 28 [v1,v2]
 rows:∀ p∈V,Nam wr w.heap.size p.1 p.2
 g:w.grownBy wr none
theorem Gk.none {w wr a:World} {sb mb rb:Nat} {v1 v2:Value} {S:List ObE} {V:List (Value × List (List UInt8))} (k:Gk w wr sb mb rb v1 v2 S V) (g:wr.grownBy a Option.none):Gk w a sb mb rb v1 v2 S V :=
 ⟨k.s.none g,k.d.kept g,k.b.kept g (by simp),fun p hp=>(k.rows p hp).none g,tn k.g g⟩
theorem Gk.add {w wr:World} {sb mb rb:Nat} {v1 v2:Value} {S:List ObE} {V:List (Value × List (List UInt8))} {v:Value} {X:List (List UInt8)} (k:Gk w wr sb mb rb v1 v2 S V) (n:Nam wr w.heap.size v X):Gk w wr sb mb rb v1 v2 S ((v,X)::V) :=
 ⟨k.s,k.d,k.b,fun p hp=>by rcases List.mem_cons.1 hp with rfl | hp;exact n;exact k.rows p hp,k.g⟩
theorem BuiltS.gk {w w1 W2:World} {sb mb:Nat} {v1 v2 vi:Value} {S:List ObE} {I:List (List UInt8)} (h:BuiltS w w1 sb mb v1 v2 vi S I) (hB:Blk W2 w1.heap.size 28 [v1,v2]) (g:w1.grownBy W2 Option.none):Gk w W2 sb mb w1.heap.size v1 v2 S [(vi,I)] :=
 ⟨h.set.none g,h.doc.kept g,hB,fun p hp=>by rw[List.mem_singleton.1 hp];exact (⟨h.own,h.wid⟩:Nam w1 w.heap.size vi I).none g,tn h.g g⟩
structure KyB (x:List UInt8) (KB:List Value):Prop where
 e:KB=x.map bv
 key:keyV x = .agg KB.toArray
 len:KB.length=32
 info:(Tryz.prog.info? 33).map (·.size)=some KB.length
 info2:(Tryz.prog.info? 33).map (·.size)=some KB.toArray.size
 one:KB.toArray.all (·.oneCell')=true
theorem kyb (x:List UInt8) (hx:x.length=32):∃ KB,KyB x KB :=
 ⟨x.map bv,rfl,rfl,by simp[hx],by rw[List.length_map,hx];exact zar,by rw[List.size_toArray,List.length_map,hx];exact zar,all_oneCell_toArray (za4 _)⟩
theorem KyB.zed {x:List UInt8} {KB:List Value} (h:KyB x KB) {Z:Array Value} (hZ:Z.size=32):Z.toList.toArray.size=KB.toArray.size:=by simp[hZ,h.len]
theorem Pk.one {w w4 wr a:World} {sb mb tb nb:Nat} {S S' H:List ObE} {V:List (Value × List (List UInt8))} (k:Pk w w4 wr sb mb tb nb S H V) (h:SetAt w a sb mb S') (g:wr.grownBy a (some mb)):Pk w w4 a sb mb tb nb S' H V :=
 ⟨h,k.h.other k.s g (fun e=>k.ne e.symm),k.ne,fun p hp=>(k.rows p hp).setk k.s g,zad k.g g (fun x e=>by cases e;exact Or.inl k.s.nm),k.wn⟩
theorem zgl {P:Program} (w:World) (t ty e:TypeId) (i:TypeInfo) (ht:P.underlying t=some (.slice e)) (hi:P.info? e=some i) (ad:Addr) (n cap:Nat) (hn:n≤cap) :
  (Builtin.append_ #[t,t] ty #[.slice (some ad) n cap,.slice none 0 0]).run P w = .ok (.slice (some ad) n cap) w:=by
 have h0:=run_firstCells_none (P:=P) w i.size 0 0 0
 simp[Builtin.append_,run_underlying ht,sizeOf,typeInfo,hi,Builtin.lenOf,hn,h0,storeCells]
theorem zg6 {w:World} {ops:Array Oper} {rest:List Oper} {o:Oper} {a:Act} {Q:Exit→Act→World→Prop} (hgd:o.guard=none) (s x:Operand)
  (ho:o.op = .call { callee := .builtin .append,args := #[s,x],argTypes := #[37,37] })
  (b:Nat) (olds:List UInt8) (hd:Dat w (some ⟨b,0,none⟩) olds.length olds) (hs:a.eval s = .slice (some ⟨b,0,none⟩) olds.length olds.length)
  (ao:Option Addr) (c:Nat) (l:List UInt8) (hl:Bts w ao c l) (hx:a.eval x = .slice ao l.length c) (hn:olds.length+l.length≤1000000)
  (h:∀ ao' c' w',Dat w' ao' c' (olds++l)→w.grownBy w' none→wpList Tryz.prog ops Q rest (a.put o.dst (.slice ao' (olds++l).length c')) w'):wpList Tryz.prog ops Q (o::rest) a w:=by
 obtain ⟨i0,hi,hz0,hz1,hz2⟩:=info_parts zet
 by_cases h0:l.length=0
 ·have hl0:l=[]:=List.eq_nil_of_length_eq_zero h0
  subst hl0
  rw[List.append_nil] at h
  cases ao with
  | none =>
   obtain ⟨-,rfl⟩:=hl.zip rfl
   refine wpList_plain hgd fun K hK => ?_
   have hrun:=zgl (P:=Tryz.prog) w 37 o.type 5 i0 Tryz.underlying37 hi ⟨b,0,none⟩ olds.length olds.length (Nat.le_refl _)
   have hfin:=h _ _ w hd (zaa _ _)
   unfold Oper.wp
   simp[execOp,ho,resolve,invoke,builtin,hs,hx,hrun,Result.andThen]
   exact hK _ _ hfin
  | some ad =>
   refine wpList_append_arg w hgd s x 37 ho 5 i0 (.int .u8 0) 1 1 Tryz.underlying37 hi hz0 hz1 hz2 rfl (by decide) b 0 olds.length olds.length (olds.map bv) hs (by simp) (fun j u hu=>by have:=hd.bts.news _ rfl j u hu;rw[Addr.add_lit] at this;exact this) ad 0 c [] hx rfl (fun j u hu=>by simp at hu) (fun u hu=>by cases hu) (fun _ j hj=>by simp at hj) (by unfold maxLen;omega) (by omega) (fun _ => ?_) (fun hc=>by omega)
   exact h _ _ w hd (zaa _ _)
 ·cases ao with
  | none=>exact absurd (hl.zip rfl).1 h0
  | some ad =>
   refine wpList_append_grows w hgd s x 37 ho 5 i0 (.int .u8 0) 1 1 Tryz.underlying37 hi hz0 hz1 hz2 rfl (by decide) (some ⟨b,0,none⟩) olds.length olds.length (olds.map bv) hs (fun e=>by cases e) (by simp) (fun bb e j u hu=>by cases e;exact hd.bts.news _ rfl j u hu) ad l.length c (l.map bv) hx (by simp) (hl.news ad rfl) (za4 l) (by omega) (by unfold maxLen;omega) (by omega) ?_
   intro v' w' hv hg
   rw[← List.map_append] at hv
   have hlen:olds.length+l.length=(olds++l).length:=by simp
   rw[hlen] at hv
   obtain ⟨-,ao',c',rfl,hb',ht'⟩:=zc4 hv
   exact h ao' c' w' ⟨hb',fun ad e=>(ht' ad e).2⟩ hg
theorem zqp (d:List UInt8) (h:d.length≤16384):zas 1 d=0:=by
 unfold zas
 rw[if_neg (by omega),if_neg (by omega),if_neg (by omega),if_neg (by omega),if_neg (by omega)]
theorem zyu {S:List ObE} (hS:SetS S) {o:ObE} (hH:SetS (putS S o)) {x:List UInt8} (hx:x∈idsS S):∃ e,lkS (putS S o) x=some e∧shaL (putL e.k e.d)=x:=by
 have h1:∃ e,lkS (putS S o) x=some e:=by
  rw[zit hS.ris]
  split
  ·exact ⟨_,rfl⟩
  ·obtain ⟨e,he,rfl⟩:=List.mem_map.1 hx
   exact ⟨e,zfb hS.ris.nodup he⟩
 obtain ⟨e,he⟩:=h1
 obtain ⟨h2,h3⟩:=zds he
 exact ⟨e,he,by rw[← hH.is e h2,h3]⟩
set_option maxRecDepth 100000 in
set_option maxHeartbeats 4000000 in
theorem znf (w:World) (ao:Option Addr) (ac n:Nat) (cb:Calls Tryz.prog 9 #[.slice ao n ac] w fun e w'=>zyt w w' e) (z:Int) (bo:Option Addr) (bc:Nat) (D:List UInt8) (hD:Bts w bo bc D) (hT:Tabs w) :
  Calls Tryz.prog 8 #[.slice ao n ac,.int .i64 z,.slice bo D.length bc] w fun e w'=>e = .returned (.bool true)∧w.grownBy w' none:=by
 have hzv:=zge
 have hzo:=zdf
 obtain ⟨Z,hZ,hzi⟩:=zdn
 obtain ⟨HZ,HD,HT⟩:=zh3 hZ hD hT
 obtain ⟨dl,hdl⟩:∃ d,d=D.length:=⟨_,rfl⟩
 rw[← hdl]
 have HDL:=hide hdl
 clear hD hT hZ hdl
 go_enter Tryz.func8,Tryz.ntmps8
 go_wp2_with fail
 refine cb.mono ?_
 rintro e w1 ⟨sb,mb,a1,a2,ia,n1,n2,c1,c2,ic,S,IL,rfl,hb⟩
 clear cb
 obtain ⟨W2,hW2,hB2,g2⟩:=zbe w1 28 #[.slice none 0 0,.slice none 0 0] [.slice a1 n1 c1,.slice a2 n2 c2]
 have hk2:=hb.gk hB2 g2
 have hI24:=hb.few
 have hS24:=hb.sew
 have HSS:=hide hb.set.ok
 have HWI:=hide hb.wid
 obtain ⟨HK2,HW2⟩:=zh2 hk2 hW2
 have HB2:=hide (Blk.new w1 28 [.slice none 0 0,.slice none 0 0])
 obtain ⟨m,hm⟩:∃ m,m=IL.length:=⟨_,rfl⟩
 rw[← hm] at hI24 ⊢
 have HM:=hide hm
 clear hb hW2 hB2 g2 hk2 hm
 by_cases hd:1000<dl
 ·have hdi:(1000:Int)<(dl:Int):=by omega
  have hg2:=(uh HK2).g
  have HG2:=hide hg2
  clear hg2
  go_wp2_with (refine wpList_store_row rfl 28 _ _ rfl w1.heap.size _ rfl rfl _ _ (uh HB2) za3 rfl (zce _ _ _ _ _ _) ?_;rw[← uh HW2])
  go_ret
  exact ⟨rfl,uh HG2⟩
 have hdi:¬ (1000:Int)<(dl:Int):=by omega
 go_wp2_with (refine wpList_store_row rfl 28 _ _ rfl w1.heap.size _ rfl rfl _ _ (uh HB2) za3 rfl (zce _ _ _ _ _ _) ?_;rw[← uh HW2])
 refine (zqe w W2 sb mb S (uh HK2).s).mono ?_
 rintro e w3 ⟨tb,nb,rfl,hH3,g3⟩
 have hk3:Pk w W2 w3 sb mb tb nb S S [(.slice ia m ic,IL)]:=⟨(uh HK2).s.none g3,hH3,(fun e=>by have h1:=(uh HK2).s.lt;have h2:=hH3.nm;omega),(fun p hp=>by have:=((uh HK2).rows (.slice ia IL.length ic,IL) (by simp)).none g3;rw[← uh HM] at this;rw[List.mem_singleton.1 hp];exact this),tn (uh HK2).g g3,(uh HK2).g.size⟩
 have HK3:=hide hk3
 clear hH3 g3 hk3 HB2 HW2
 go_wp2_with fail
 refine (zks w3 (some ⟨sb,0,none⟩) S (uh HK3).s.sat).mono ?_
 rintro e w4 ⟨v4,rfl,ho4,g4⟩
 obtain ⟨U,hU⟩:∃ U,U=idsS S:=⟨_,rfl⟩
 rw[← hU] at ho4
 have hN4:Nam w4 w.heap.size v4 U:=⟨za7 ho4 (uh HK3).g.size,fun x hx=>by rw[hU] at hx;obtain ⟨e,he,rfl⟩:=List.mem_map.1 hx;exact (uh HSS).len e he⟩
 obtain ⟨ua,uc,rfl,-,-⟩:=hN4.open
 have hk4:=((uh HK3).none g4).add hN4
 obtain ⟨un,hun⟩:∃ u,u=U.length:=⟨_,rfl⟩
 have hun24:un≤24:=by rw[hun,hU];simpa[idsS] using hS24
 rw[← hun] at hk4 ⊢
 obtain ⟨HU,HUN,HK4⟩:=zh3 hU hun hk4
 clear ho4 g4 hN4 hk4 hU hun
 obtain ⟨W6,hW6⟩:∃ W,W=w4.alloc (.cells #[.int .u8 110,.int .u8 101,.int .u8 119,.int .u8 32] 5 (4,5)):=⟨_,rfl⟩
 have g6:w4.grownBy W6 none:=by rw[hW6];exact zag (zaa _ _) _
 have hh6:W6.heap[w4.heap.size]? = some (.cells #[.int .u8 110,.int .u8 101,.int .u8 119,.int .u8 32] 5 (4,5)):=by rw[hW6];exact heap_alloc_new w4 _
 have hcv:(convert 37 37 (.slice (some ⟨w4.heap.size,0,none⟩) 4 4)).run Tryz.prog (w4.alloc (.cells #[.int .u8 110,.int .u8 101,.int .u8 119,.int .u8 32] 5)) = .ok (.slice (some ⟨w4.heap.size,0,none⟩) 4 4) W6:=by
  rw[hW6];exact Lib.run_convert_bytes_const (P:=Tryz.prog) w4 37 5 #[.int .u8 110,.int .u8 101,.int .u8 119,.int .u8 32] 4 4 Tryz.underlying37 Tryz.underlying5
 have hd6:Dat W6 (some ⟨w4.heap.size,0,none⟩) 4 [110,101,119,32]:=⟨⟨(fun e=>by cases e),Nat.le_refl _,by unfold maxLen;decide,(fun ad e _=>by cases e;rfl),fun ad e i hi=>by
  cases e
  have:i=0∨i=1∨i=2∨i=3:=by have:i<4:=hi;omega
  rcases this with rfl | rfl | rfl | rfl <;> simp[World.cell?,hh6]⟩,fun ad e=>by cases e;exact ⟨_,_,hh6⟩⟩
 obtain ⟨DD,hDD⟩:∃ DD,DD=([110,101,119,32]++D:List UInt8):=⟨_,rfl⟩
 have hDDl:DD.length≤1004:=by rw[hDD,List.length_append,← uh HDL];simp;omega
 obtain ⟨ID,hID⟩:∃ i,i=shaL (putL 1 DD):=⟨_,rfl⟩
 have hck:=zqp DD (by omega)
 have hIDl:ID.length=32:=by rw[hID];exact za5 _
 obtain ⟨IB,hIB⟩:=kyb ID hIDl
 have HD6:=hide hd6
 have HDB:=hide ((uh HD).kept (tn (uh HK4).g g6) (fun _ e=>by cases e))
 obtain ⟨HG6,HDD,HID,HCK,HIB⟩:=zh5 g6 hDD hID hck hIB
 clear hW6 g6 hh6 hd6 hDD hID hck hIB
 go_wp2_with (first
  | (refine zg6 rfl _ _ rfl w4.heap.size [110,101,119,32] (uh HD6) rfl bo bc D (uh HDB) (by rw[← uh HDL];rfl) (by rw[← uh HDL];simp;omega) ?_;intro da dc w7 hD7 g7;rw[← uh HDD] at hD7 ⊢;have HD7:=hide hD7;have HK7:=hide ((uh HK4).none (tn (uh HG6) g7));clear hD7 g7 hcv)
  | (refine zaw rfl 42 _ rfl #[.int .i64 1,.slice da DD.length dc] ?hbo ?_))
 case hbo=>simpa using zgf 1 da DD.length dc
 have cput:=zkq W2 w7 tb nb S (uh HK7).h 1 da dc DD (uh HD7) (uh HCK) (by omega) ((uh HT).kept0 (uh HK7).g)
 rw[← uh HID,(uh HIB).key] at cput
 refine cput.mono ?_
 rintro e w8 ⟨rfl,hH8,g8⟩
 clear cput
 obtain ⟨H,hH⟩:∃ H,H=putS S ⟨ID,1,DD⟩:=⟨_,rfl⟩
 rw[← hH] at hH8
 have hk8:=(uh HK7).put hH8 g8
 obtain ⟨W9,hW9,hB9,g9⟩:=zbe w8 33 Z IB
 have hBZ:Blk (w8.alloc (.cells Z 33)) w8.heap.size 33 Z.toList:=by simpa using Blk.new w8 33 Z.toList
 have hk9:=hk8.none g9
 have hHS:SetS H:=hk9.h.ok
 have hhas:hasS H ID=true:=by
  unfold hasS
  rw[hH,zit (uh HSS).ris,if_pos rfl]
  rfl
 have HHAS:Hid (Calls Tryz.prog 13 #[.pointer (some ⟨tb,0,none⟩),.agg IB.toArray] W9 fun e w'=>e = .returned (.bool true)∧W9.grownBy w' none):=by
  have:=zkm W9 (some ⟨tb,0,none⟩) H hk9.h.sat ID hIDl
  rw[(uh HIB).key,hhas] at this
  exact this
 have hr9:=zak hB9
 have hgets:∀ x∈U,∃ e,lkS H x=some e∧shaL (putL e.k e.d)=x:=fun x hx=>by
  rw[hH]
  exact zyu (uh HSS) (by rw[← hH];exact hHS) (by rw[← uh HU];exact hx)
 obtain ⟨HGETS,HK9,HB9,HW9,HBZ⟩:=zh5 hgets hk9 hB9 hW9 hBZ
 clear hH8 g8 hH hk8 hW9 hB9 g9 hBZ hk9 hHS hhas hgets HD7 HK7 HCK HD6 HDB HG6
 go_upto_region 7 with (have hBB:=uh HBZ;refine wpList_store_row rfl 33 _ _ rfl w8.heap.size IB.toArray rfl rfl _ _ hBB (uh HIB).info2 ((uh HIB).zed (uh HZ)) (uh HIB).one ?_;clear hBB;rw[← uh HW9])
 refine zbk fun O hO => ?_
 refine zac (by rw[hO];kernel_rfl) (.int .i64 (0)) (fun K9 hK9=>by go_simp;exact hK9) ?_
 (try simp only[pq])
 refine zac (by rw[hO];kernel_rfl) (.bool false) (fun K9 hK9=>by go_simp;exact hK9) ?_
 (try simp only[pq])
 refine zac (by rw[hO];kernel_rfl) (.bool false) (fun K9 hK9=>by go_simp;exact hK9) ?_
 (try simp only[pq])
 refine zac (by rw[hO];kernel_rfl) (.pointer (some ⟨tb,0,none⟩)) (fun K9 hK9=>by go_simp;exact hK9) ?_
 (try simp only[pq])
 refine zac (by rw[hO];kernel_rfl) (.agg IB.toArray) (fun K9 hK9=>wp_load_mid 33 _ rfl w8.heap.size (0) rfl IB _ hr9 Tryz.underlying33 rfl (uh HIB).info hK9) ?_
 (try simp only[pq])
 refine zbw (by rw[hO];kernel_rfl) fun K9 hK9 => ?_
 go_simp
 go_at_call 13
 refine (uh HHAS).mono ?_
 rintro e w10 ⟨rfl,g10⟩
 refine hK9 _ _ ?_
 clear hK9 K9
 (try simp only[pq])
 refine zac (by rw[hO];kernel_rfl) (.bool false) (fun K9 hK9=>by go_simp;exact hK9) ?_
 (try simp only[pq])
 refine zac (by rw[hO];kernel_rfl) (.bool false) (fun K9 hK9=>by go_simp;exact hK9) ?_
 (try simp only[pq])
 have HK10:=hide ((uh HK9).none g10)
 have HB10:=hide ((uh HB9).kept g10 (by simp))
 clear g10 hr9 HHAS HK9 HB9 HW9 HBZ
 go_upto_if 56 with fail
 go_cut [] (fun wx=>∃ S9,Pk w W2 wx sb mb tb nb S9 H [(.slice ua un uc,U),(.slice ia m ic,IL)]∧Blk wx w8.heap.size 33 IB∧S9.length≤S.length)
 case first =>
  by_cases hm0:0<m
  ·have hmi:(0:Int)<(m:Int):=by omega
   have hmn:¬ (m:Int)=0:=by omega
   have hmm:¬ m=0:=by omega
   obtain ⟨r,s,q,e1,e2,e3,hq⟩:=zr9 z m hm0 (by omega)
   have hqI:q<IL.length:=by have:=uh HM;omega
   obtain ⟨ib,io,hia,hrow⟩:=((uh HK10).rows (.slice ia m ic,IL) (by simp)).at q hqI
   have hx32:=uh HWI _ (List.getElem_mem hqI)
   obtain ⟨x,hx⟩:∃ x,x=IL[q]:=⟨_,rfl⟩
   rw[← hx] at hrow hx32
   obtain ⟨XB,hXB⟩:=kyb x hx32
   rw[← hXB.e] at hrow
   have cdr:=zly w w10 sb mb S (uh HK10).s x hx32
   rw[hXB.key] at cdr
   obtain ⟨rr,hrr⟩:∃ r:Int,r=(if hasS S x=true then 0 else 13):=⟨_,rfl⟩
   rw[← hrr] at cdr
   obtain ⟨HXB,HROW⟩:=zh2 hXB hrow
   clear hx hXB hrow hrr
   subst hia
   go_wp2_with (refine wpList_load_mid rfl 33 _ rfl ib (io+q*32) rfl XB _ (uh HROW) Tryz.underlying33 rfl (uh HXB).info ?_)
   refine cdr.mono ?_
   rintro e w11 ⟨rfl,hS11,g11⟩
   clear cdr
   go_wp2
   go_meet
   case rel=>exact ⟨zfp S x,(uh HK10).one hS11 g11,(uh HB10).setk (uh HK10).s g11,zis S x⟩
  ·have hmi:¬ (0:Int)<(m:Int):=by omega
   go_wp2
   go_meet
   case rel=>exact ⟨S,uh HK10,uh HB10,Nat.le_refl _⟩
 case rest =>
  obtain ⟨S9,hk9,hB9,hle9⟩:=hcut
  rename_i w10' wc
  have cdr:=zly w wc sb mb S9 hk9.s ID hIDl
  rw[(uh HIB).key] at cdr
  obtain ⟨rr,hrr⟩:∃ r:Int,r=(if hasS S9 ID=true then 0 else 13):=⟨_,rfl⟩
  rw[← hrr] at cdr
  have hr10:=zak hB9
  obtain ⟨HK11,HB11⟩:=zh2 hk9 hB9
  clear hk9 hB9 hrr HK10 HB10
  go_wp2_with (refine wpList_load_mid rfl 33 _ rfl w8.heap.size 0 rfl IB _ hr10 Tryz.underlying33 rfl (uh HIB).info ?_)
  refine cdr.mono ?_
  rintro e w12 ⟨rfl,hS12,g12⟩
  clear cdr hr10
  obtain ⟨S11,hS11⟩:∃ S,S=zfp S9 ID:=⟨_,rfl⟩
  rw[← hS11] at hS12
  have hno:hasS S11 ID=false:=by rw[hS11];exact zvn (uh HK11).s.ok ID
  have HNO:=hide hno
  have HLE:Hid ((idsS S11).length≤un):=by
   have h1:S11.length≤S9.length:=by rw[hS11];exact zis _ _
   have h2:un=S.length:=by rw[uh HUN,uh HU];simp[idsS]
   show (idsS S11).length≤un
   rw[h2]
   simp[idsS]
   omega
  have HK12:=hide ((uh HK11).one hS12 g12)
  have HB12:=hide ((uh HB11).setk (uh HK11).s g12)
  clear hS12 g12 hS11 hno hle9 HK11 HB11
  go_wp2_with fail
  go_loopw [14,15,16] (fun i _x _y wr=>∃ j:Nat,i = .int .i64 j∧j≤un∧Pk w W2 wr sb mb tb nb S11 H [(.slice ua un uc,U),(.slice ia m ic,IL)]∧Blk wr w8.heap.size 33 IB) (fun i _ _ _=>un - (intOf i).toNat)
  case atStart=>exact ⟨0,rfl,Nat.zero_le _,uh HK12,uh HB12⟩
  case round =>
   clear HK12 HB12
   obtain ⟨j,rfl,hj,hk,hB⟩:=hrel
   obtain ⟨HK,HB⟩:=zh2 hk hB
   clear hk hB
   by_cases hlt:j<un
   ·have hjU:j<U.length:=by rw[← uh HUN];exact hlt
    have hjlt:(j:Int)<(un:Int):=by omega
    obtain ⟨ub,uo,hua,hrow⟩:=((uh HK).rows (.slice ua un uc,U) (by simp)).at j hjU
    have hx32:=((uh HK).rows (.slice ua un uc,U) (by simp)).wid _ (List.getElem_mem hjU)
    obtain ⟨o,hlk,hoid⟩:=uh HGETS _ (List.getElem_mem hjU)
    obtain ⟨x,hx⟩:∃ x,x=U[j]:=⟨_,rfl⟩
    rw[← hx] at hrow hx32 hlk hoid
    obtain ⟨XB,hXB⟩:=kyb x hx32
    rw[← hXB.e] at hrow
    have cget:=zxk W2 wr tb nb H (uh HK).h x hx32 o hlk
    rw[hXB.key] at cget
    have hsm:=zen ((uh HK).h.ok.ok o (zds hlk).1)
    have hne:∀ W,(binOp .neq 33 (.agg XB.toArray) (.agg XB.toArray)).run Tryz.prog W = .ok (.bool false) W:=fun W=>by
     have:=zk0 x x hx32 hx32 W
     rw[beq_self_eq_true,Bool.not_true,← hXB.e] at this
     exact this
    have hjw:IntKind.i64.wrap ((j:Int)+1)=(j:Int)+1:=by rw[IntKind.wrap_i64];omega
    obtain ⟨HXB,HROW,HOI0,HNE⟩:=zh4 hXB hrow hoid hne
    clear hx hXB hrow hlk hoid hne hx32
    subst hua
    go_upto_region 16 with (first
     | (refine wpList_load_mid rfl 33 _ rfl ub (uo+j*32) rfl XB _ (uh HROW) Tryz.underlying33 rfl (uh HXB).info ?_)
     | (go_at_call 14;refine cget.mono ?_;rintro e w13 ⟨v13,rfl,hn13,g13⟩;clear cget;obtain ⟨da2,dc2,rfl,hD13⟩:=hn13.dat;obtain ⟨dn2,hdn2⟩:∃ n,n=o.d.length:=⟨_,rfl⟩;rw[← hdn2];obtain ⟨ok,hok⟩:∃ k,k=o.k:=⟨_,rfl⟩;rw[← hok];obtain ⟨W14,hW14,hB14,g14⟩:=zbe w13 42 #[.int .i64 0,.slice none 0 0] [.int .i64 ok,.slice da2 dn2 dc2];have HK14:=hide (((uh HK).none g13).none g14);have HBI14:=hide ((uh HB).kept (tn g13 g14) (by simp));have HD14:=hide (hD13.none g14);have HRU:=hide (zae (uh HROW) (tn g13 g14) (by simp));have HW14:=hide hW14;have HB14:=hide hB14;have HDN:=hide hdn2;have HOK:=hide hok;clear hn13 hD13 g13 g14 hW14 hB14 hdn2 hok)
     | (refine wpList_store_row rfl 42 _ _ rfl w13.heap.size _ rfl rfl _ _ (Blk.new w13 42 [.int .i64 0,.slice none 0 0]) zaq rfl (zcc rfl) ?_;rw[← uh HW14]))
    have h0:W14.grownBy W14.drew none:=zaj (zaa _ _)
    have HG14:=hide (uh HK14).g
    have HOC:Hid (Calls Tryz.prog 33 #[.agg #[.int .i64 ok,.slice da2 dn2 dc2]] W14.drew fun e w'=>e = .returned (.agg XB.toArray)∧W14.drew.grownBy w' none):=by
     have hc:=zm5 W14.drew o.k da2 dc2 o.d ((uh HD14).none h0).bts (by omega) ((uh HT).kept0 (tn (uh HG14) h0))
     rw[uh HOI0,← (uh HXB).e,← uh HOK,← uh HDN] at hc
     exact hc
    refine wp_region_noPanic ?_
    refine wp_region_held_drew (S:=fun V=>W14.grownBy V none) (by kernel_rfl) h0 (fun _ => ?_)
    refine tq 0 90 (.move (.tmp 16)) ((.int .i64 (0))) h0 ?_
    refine tq 1 91 (.binOp .neq 38 (.tmp 90) (.const (.int .i64 0)) 38) ((.bool false)) h0 ?_
    refine tq 2 92 (.move (.tmp 91)) ((.bool false)) h0 ?_
    refine tz 3 93 (.load 42 (.tmp 15)) (.agg [Value.int IntKind.i64 ok,Value.slice da2 dn2 dc2].toArray) h0 ?_ (y:=(yieldsIf_load_mid (by rfl) _ _ rfl _ _ rfl [Value.int IntKind.i64 ok,Value.slice da2 dn2 dc2] _ (fun V hV=>zae (zak (uh HB14)) hV (by simp)) Tryz.underlying42 rfl zaq))
    (try simp only[pq])
    refine tq 5 95 (.move (.tmp 11)) ((.slice (some ⟨ub,uo,none⟩) un uc)) h0 ?_
    refine tq 6 96 (.move (.tmp 14)) ((.int .i64 ((j:Int)))) h0 ?_
    refine tq 7 97 (.indexAddr 29 (.tmp 95) (.tmp 96)) ((.pointer (some ⟨ub,uo+j*32,none⟩))) h0 ?_
    refine tz 8 98 (.load 33 (.tmp 97)) (.agg XB.toArray) h0 ?_ (y:=(yieldsIf_load_mid (by rfl) _ _ rfl _ _ rfl XB _ (fun V hV=>zae (uh HRU) hV (by simp)) Tryz.underlying33 rfl (uh HXB).info))
    (try simp only[pq])
    refine rd 4 (some 94) (.call { callee := .value (.func 33),args := #[(.tmp 93)],argTypes := #[42] }) (fun K9 hK9 => ?_)
    go_simp
    go_at_call 33
    refine (uh HOC).mono ?_
    rintro e w15 ⟨rfl,g15⟩
    have h15:=tn h0 g15
    go_wp2_with fail
    refine hK9.out _ _ h15 (fun _ => ?_)
    clear hK9 K9
    refine tz 9 99 (.binOp .neq 33 (.tmp 94) (.tmp 98) 33) (.bool false) h15 ?_ (y:=(zdr (by rfl) _ _ _ _ rfl _ _ _ rfl rfl zdy (uh HNE)))
    refine tq 10 100 (.pick (.tmp 92) (.const (.bool true)) (.tmp 99)) ((.bool false)) h15 ?_
    (try simp only[pq])
    refine wpAnyH_done (by kernel_rfl) ?_ _
    refine NoPanic.normal ?_
    have HK15:=hide ((uh HK14).none h15)
    have HB15:=hide ((uh HBI14).kept h15 (by simp))
    clear h15 h0 HK14 HBI14 HB14 HW14 HD14 HRU HOC
    go_wp2
    go_roundw
    case rel=>exact ⟨j+1,by go_num,by omega,uh HK15,uh HB15⟩
    case measure=>simp[intOf];omega
   ·have hjlt:¬ (j:Int)<(un:Int):=by omega
    have HHAS2:Hid (Calls Tryz.prog 13 #[.pointer (some ⟨sb,0,none⟩),.agg IB.toArray] wr fun e w'=>e = .returned (.bool false)∧wr.grownBy w' none):=by
     have:=zkm wr (some ⟨sb,0,none⟩) S11 (uh HK).s.sat ID hIDl
     rw[(uh HIB).key,uh HNO] at this
     exact this
    have hr18:=zak (uh HB)
    go_upto_region 18 with fail
    refine zbk fun O hO => ?_
    refine zac (by rw[hO];kernel_rfl) (.pointer (some ⟨sb,0,none⟩)) (fun K9 hK9=>by go_simp;exact hK9) ?_
    (try simp only[pq])
    refine zac (by rw[hO];kernel_rfl) (.agg IB.toArray) (fun K9 hK9=>wp_load_mid 33 _ rfl w8.heap.size (0) rfl IB _ hr18 Tryz.underlying33 rfl (uh HIB).info hK9) ?_
    (try simp only[pq])
    refine zbw (by rw[hO];kernel_rfl) fun K9 hK9 => ?_
    go_simp
    go_at_call 13
    refine (uh HHAS2).mono ?_
    rintro e w19 ⟨rfl,g19⟩
    have HK19:=hide ((uh HK).none g19)
    clear g19
    refine hK9 _ _ ?_
    clear hK9 K9
    (try simp only[pq])
    refine zac (by rw[hO];kernel_rfl) (.bool true) (fun K9 hK9=>by go_simp;exact hK9) ?_
    (try simp only[pq])
    refine zac (by rw[hO];kernel_rfl) (.bool true) (fun K9 hK9=>by go_simp;exact hK9) ?_
    (try simp only[pq])
    refine zac (by rw[hO];kernel_rfl) (.pointer (some ⟨sb,0,none⟩)) (fun K9 hK9=>by go_simp;exact hK9) ?_
    (try simp only[pq])
    refine zbw (by rw[hO];kernel_rfl) fun K9 hK9 => ?_
    go_simp
    go_at_call 19
    refine (zks w19 (some ⟨sb,0,none⟩) S11 (uh HK19).s.sat).mono ?_
    rintro e w20 ⟨v20,rfl,ho20,g20⟩
    obtain ⟨fa,fc,rfl⟩:=zbi ho20
    obtain ⟨fn,hfn⟩:∃ f,f=(idsS S11).length:=⟨_,rfl⟩
    rw[← hfn]
    have hfl:fn≤un:=by rw[hfn];exact uh HLE
    have hfi:(fn:Int)≤(un:Int):=by omega
    have HG20:=hide (tn (uh HK19).g g20)
    clear ho20 g20 hfn
    refine hK9 _ _ ?_
    clear hK9 K9
    (try simp only[pq])
    refine zac (by rw[hO];kernel_rfl) (.int .i64 (fn:Int)) (fun K9 hK9=>by go_simp;exact hK9) ?_
    (try simp only[pq])
    refine zac (by rw[hO];kernel_rfl) (.slice ua un uc) (fun K9 hK9=>by go_simp;exact hK9) ?_
    (try simp only[pq])
    refine zac (by rw[hO];kernel_rfl) (.int .i64 (un:Int)) (fun K9 hK9=>by go_simp;exact hK9) ?_
    (try simp only[pq])
    refine zac (by rw[hO];kernel_rfl) (.bool true) (fun K9 hK9=>by go_simp;exact hK9) ?_
    (try simp only[pq])
    refine zac (by rw[hO];kernel_rfl) (.bool true) (fun K9 hK9=>by go_simp;exact hK9) ?_
    (try simp only[pq])
    refine zac (by rw[hO];kernel_rfl) (.bool true) (fun K9 hK9=>by go_simp;exact hK9) ?_
    (try simp only[pq])
    refine zbw (by rw[hO];kernel_rfl) fun K9 hK9 => ?_
    go_simp
    go_at_call 20
    refine (zvt w20 ((uh HT).kept0 (uh HG20))).mono ?_
    rintro e w21 ⟨rfl,g21⟩
    have G21:=tn (uh HG20) g21
    refine hK9 _ _ ?_
    clear hK9 K9
    (try simp only[pq])
    refine zac (by rw[hO];kernel_rfl) (.bool true) (fun K9 hK9=>by go_simp;exact hK9) ?_
    (try simp only[pq])
    refine zac (by rw[hO];kernel_rfl) (.bool true) (fun K9 hK9=>by go_simp;exact hK9) ?_
    (try simp only[pq])
    go_wp2
    go_ret
    exact ⟨rfl,G21⟩
end Go.Proofs.YthhnfloohbdaiaaGreatDoor
