/- Lemmas. -/
import Derived.OwnWalk
import Derived.Test.YthhnfloohbdaiaaGreatDoorRGRch2
import Derived.Deep.DeepCutAuto
namespace Go.Proofs.YthhnfloohbdaiaaGreatDoor
open Go.RowKit
set_option maxRecDepth 100000
theorem zze (k:Int) (d:List UInt8):(rtC k d).1=(telC k d).1∧(rtC k d).2.pars=(telC k d).2.pars∧(rtC k d).2.time=(telC k d).2.time:=by
 by_cases hk:k=3 <;> by_cases hq:zcf (zbh d)=(0,d) <;> simp[rtC,telC,hk,hq,zer]
theorem zwm {S:List ObE} (hS:SetS S) {x:List UInt8} {k:Nat} (hk:(idsS S)[k]? = some x) (hl:k<S.length):AtS S x S[k].k S[k].d:=by
 have hx:S[k].id=x:=by
  obtain ⟨h1,h2⟩:=List.getElem?_eq_some_iff.1 hk
  rw[← h2];simp[idsS]
 refine Or.inl ⟨S[k],?_,rfl,rfl⟩
 rw[← hx]
 exact zgf hS.ris.nodup (List.getElem_mem hl)
theorem zyk {S:List ObE} {x:List UInt8} (h:x∉idsS S):AtS S x 0 []:=Or.inr ⟨zkj h,rfl,rfl⟩
theorem zqo:∃ Z:Array Value,Z.size=5∧∀ w,(zeroValue 151).run Tryz.prog w = .ok (.agg Z) w:=⟨_,rfl,fun w=>(by kernel_rfl:(zeroValue 151).run Tryz.prog w = .ok (.agg (rcC ⟨[],[],0,[],[]⟩ none 0).toArray) w)⟩
set_option maxHeartbeats 4000000 in
theorem zl1 (w:World) (base:Nat) (v1 v2:Value) (S:List ObE) (h:RSet w base v1 v2 S) (hS:SetS S) (x:List UInt8) :
  Calls Tryz.prog 58 #[.agg #[v1,v2],.string (str x)] w fun e w'=>∃ (v:Value) (t:Nat) (b:Bool),e = .returned (.tuple #[v,.int .u64 (t:Int),.bool b])∧Stg w' w.heap.size v (prS S x)∧comS S x=(if b=true then some t else none)∧w.grownBy w' none:=by
 obtain ⟨a1,c1,e1,hStl⟩:=h.ids.open
 obtain ⟨a2,c2,e2,hO,_⟩:=h.obs.rws
 obtain ⟨n,hn⟩:∃ n,n=S.length:=⟨_,rfl⟩
 have hni:n=(idsS S).length:=by rw[hn];simp[idsS]
 rw[← hni] at e1
 rw[← hn] at e2
 subst e1 e2
 obtain ⟨W1,hW1,hB1,g1⟩:=zag w 28 [.slice a1 n c1,.slice a2 n c2]
 have cpl:=zph W1 base a1 c1 (idsS S) (hStl.kept g1) a2 n c2 x (by rw[← hni,hn];have:=hS.few;omega)
 rw[← hni] at cpl
 have hr1:=zal hB1
 obtain ⟨TX,hTX⟩:∃ T,T=str x:=⟨_,rfl⟩
 rw[← hTX] at cpl ⊢
 obtain ⟨HW1,HB1,HG1⟩:=zh3 hW1 hB1 g1
 have HOO:=hide (hO.kept g1)
 obtain ⟨HN,HSS⟩:=zh2 hn hS
 have hn9:n≤1000:=by rw[hn];exact hS.few
 clear hW1 hB1 g1 hO hn hni hS hStl h hTX
 go_enter Tryz.func58,Tryz.ntmps58
 go_wp2_with (first
  | (rw[← uh HW1])
  | (refine wpList_load_mid rfl 28 _ rfl w.heap.size 0 rfl [Value.slice a1 n c1,Value.slice a2 n c2] _ hr1 Tryz.underlying28 rfl zas ?_;clear hr1))
 refine cpl.mono ?_
 rintro e w2 ⟨r,rfl,g2,hr⟩
 clear cpl
 rcases hr with ⟨hr1,hno⟩ | ⟨k,hr1,hk,-⟩
 ·subst hr1
  have hat:=zyk hno
  have hp:prS S x=[]:=by rw[← hat.pars];rfl
  have hc:comS S x=none:=by rw[hat.com];rfl
  obtain ⟨HP,HC⟩:=zh2 hp hc
  clear hat hno hp hc
  go_wp2
  refine bodyPost_ret (results_tmp3 rfl _ _ _) rfl ?_
  exact ⟨_,0,false,rfl,by rw[uh HP];exact Stg.nil _ _,by rw[uh HC];rfl,tn (uh HG1) g2⟩
 ·subst hr1
  have hkS:k<S.length:=by have:=(List.getElem?_eq_some_iff.1 hk).1;simpa[idsS] using this
  obtain ⟨sb,so,hsa,hrk⟩:=((uh HOO).kept g2).at k hkS
  have hat:=zwm (uh HSS) hk hkS
  have hd:S[k].d.length≤100000:=by have:=zfr ((uh HSS).ok _ (List.getElem_mem hkS));omega
  have cl:=zge w2 S[k].k S[k].d hd
  obtain ⟨F,hF⟩:∃ F,F=S[k]:=⟨_,rfl⟩
  rw[← hF] at hrk hat cl
  obtain ⟨FC,hFC⟩:∃ C,C=roC F:=⟨_,rfl⟩
  rw[← hFC] at hrk
  rw[show Value.agg #[.int .i64 F.k,.string (str F.d)] = .agg FC.toArray by rw[hFC];rfl] at cl
  have hiF:(Tryz.prog.info? 47).map (·.size)=some FC.length:=by rw[hFC];exact zdj
  have hcO:w2.cell? ⟨w.heap.size,1,none⟩=some (.slice a2 n c2):=by rw[((uh HB1).kept g2 (by simp)).cell];rfl
  have hkn:k<n:=by rw[uh HN];exact hkS
  have hk0:¬ (k:Int)<0:=by omega
  obtain ⟨HAT,HRK,HIF⟩:=zh3 hat hrk hiF
  have HG2:=hide (tn (uh HG1) g2)
  clear hk hkS hd hF hFC hrk hat hiF
  subst hsa
  go_wp2_with (refine wpList_load_mid rfl 47 _ rfl sb (so+k*2) rfl FC _ (uh HRK) Tryz.underlying47 rfl (uh HIF) ?_)
  refine cl.mono ?_
  rintro e w5 ⟨po,pc,y,rfl,hy,hL5,g5⟩
  clear cl hcO hkn
  obtain ⟨t1,t2,t3⟩:=zze F.k F.d
  obtain ⟨RC,hRC⟩:∃ C,C=rcC (rtC F.k F.d).2 po pc:=⟨_,rfl⟩
  have hRl:RC.length=5:=by rw[hRC];rfl
  have hRo:RC.toArray.all (·.oneCell')=true:=by rw[hRC];exact all_oneCell_toArray (zx1 _ _ _)
  have hc1:RC[1]? = some (.slice po (rtC F.k F.d).2.pars.length pc):=by rw[hRC];rfl
  have hc2:RC[2]? = some (.int .u64 ((rtC F.k F.d).2.time:Int)):=by rw[hRC];rfl
  obtain ⟨tm,htm⟩:∃ t,t=(rtC F.k F.d).2.time:=⟨_,rfl⟩
  obtain ⟨pn,hpn⟩:∃ t,t=(rtC F.k F.d).2.pars.length:=⟨_,rfl⟩
  rw[← htm] at hc2
  rw[← hpn] at hc1 hL5
  rw[t2,(uh HAT).pars] at hL5
  have hcm:=(uh HAT).com
  rw[← t1,← t3,← hy,← htm] at hcm
  rw[← hRC]
  obtain ⟨ZR,hZR,zvR⟩:=zqo
  obtain ⟨W6,hW6,hB6,g6⟩:=zbl w5 151 ZR RC
  have hBZ:Blk (w5.alloc (.cells ZR 151)) w5.heap.size 151 ZR.toList:=by simpa using Blk.new w5 151 ZR.toList
  have hd1:W6.cell? ⟨w5.heap.size,1,none⟩=some (.slice po pn pc):=by rw[hB6.cell];exact hc1
  have hd2:W6.cell? ⟨w5.heap.size,2,none⟩=some (.int .u64 (tm:Int)):=by rw[hB6.cell];exact hc2
  have HI:=hide (show (Tryz.prog.info? 151).map (·.size)=some RC.toArray.size by rw[show RC.toArray.size=5 by simpa using hRl];exact zcn)
  have HZC:=hide (show ZR.toList.toArray.size=RC.toArray.size by simp[hZR,hRl])
  obtain ⟨HCO,HBZ,HW6⟩:=zh3 hRo hBZ hW6
  have HL6:=hide (hL5.kept g6)
  have HG6:=hide (tn (tn (uh HG2) g5) g6)
  have HLE:=hide (uh HG2).size
  have HCM:=hide hcm
  clear hL5 g5 g6 hW6 hBZ hRo hRl hRC hc1 hc2 hZR hB6 hcm t1 t2 t3 htm hpn hy g2
  by_cases hy0:y=0
  ·subst hy0
   go_wp2_with (have hB9:=uh HBZ;refine wpList_store_row rfl 151 _ _ rfl w5.heap.size RC.toArray rfl rfl _ _ hB9 (uh HI) (uh HZC) (uh HCO) ?_;clear hB9;rw[← uh HW6])
   go_region
   go_wp2
   refine bodyPost_ret (results_tmp3 rfl _ _ _) rfl ?_
   exact ⟨_,tm,true,rfl,za7 (uh HL6) (uh HLE),by rw[uh HCM];rfl,zak (uh HG6)⟩
  ·have hyb:(y == 0)=false:=by simpa using hy0
   have hyd:decide (y=0)=false:=by simpa using hy0
   go_wp2_with (have hB9:=uh HBZ;refine wpList_store_row rfl 151 _ _ rfl w5.heap.size RC.toArray rfl rfl _ _ hB9 (uh HI) (uh HZC) (uh HCO) ?_;clear hB9;rw[← uh HW6])
   go_region
   go_wp2
   refine bodyPost_ret (results_tmp3 rfl _ _ _) rfl ?_
   exact ⟨_,tm,false,rfl,za7 (uh HL6) (uh HLE),by rw[uh HCM,if_neg hy0];rfl,zak (uh HG6)⟩
theorem zom {w:World} {base:Nat} {v:Value} {L:List (List UInt8)} (h:Stg w base v L):∀ k,v.ownBlock=some k→k<w.heap.size:=fun k e=>(World.ownsRow.lt h k e).2
theorem ztq {V:World} {base b:Nat} {x:List UInt8} (h:Blk V b 9 (stR x)) (hb:base≤b):Stg V base (.slice (some ⟨b,0,none⟩) 1 1) [x] :=
 ⟨rfl,.inr ⟨b,1,(stR x).toArray,rfl,hb,h,Nat.le_refl _,by unfold maxLen;omega,rfl,rfl⟩⟩
structure Bf3 (w wr:World) (v5 v6 v7:Value) (O N X:List (List UInt8)):Prop where
 o:Stg wr w.heap.size v5 O
 n:Stg wr w.heap.size v6 N
 x:Stg wr w.heap.size v7 X
 a56:v5.ownBlock=none∨v5.ownBlock≠v6.ownBlock
 a57:v5.ownBlock=none∨v5.ownBlock≠v7.ownBlock
 a67:v6.ownBlock=none∨v6.ownBlock≠v7.ownBlock
 g:w.grownBy wr none
theorem Bf3.none {w wr a:World} {v5 v6 v7:Value} {O N X:List (List UInt8)} (h:Bf3 w wr v5 v6 v7 O N X) (g:wr.grownBy a Option.none):Bf3 w a v5 v6 v7 O N X :=
 ⟨h.o.kept g,h.n.kept g,h.x.kept g,h.a56,h.a57,h.a67,tn h.g g⟩
theorem Bf3.addO {w wr a:World} {v5 v6 v7 u:Value} {O N X Q:List (List UInt8)} (h:Bf3 w wr v5 v6 v7 O N X) (q:Stg a w.heap.size u Q) (g:wr.grownBy a v5.ownBlock) (hat:u.ownBlock=v5.ownBlock∨u.ownBlock=some wr.heap.size):Bf3 w a u v6 v7 Q N X :=
 ⟨q,World.ownsRow.kept h.n g (zjv h.a56),World.ownsRow.kept h.x g (zjv h.a57),zwl h.a56 hat (zom h.n),zwl h.a57 hat (zom h.x),h.a67,zae h.g g (fun z e=>Or.inl (World.ownsRow.lt h.o z e).1)⟩
theorem Bf3.addX {w wr a:World} {v5 v6 v7 u:Value} {O N X Q:List (List UInt8)} (h:Bf3 w wr v5 v6 v7 O N X) (q:Stg a w.heap.size u Q) (g:wr.grownBy a v7.ownBlock) (hat:u.ownBlock=v7.ownBlock∨u.ownBlock=some wr.heap.size):Bf3 w a v5 v6 u O N Q :=
 ⟨World.ownsRow.kept h.o g h.a57,World.ownsRow.kept h.n g h.a67,q,h.a56,zjv (zwl (zjv h.a57) hat (zom h.o)),zjv (zwl (zjv h.a67) hat (zom h.n)),zae h.g g (fun z e=>Or.inl (World.ownsRow.lt h.x z e).1)⟩
theorem Bf3.new {w wr:World} {v5 v6 v7:Value} {O N X:List (List UInt8)} (h:Bf3 w wr v5 v6 v7 O N X):Bf3 w wr v5 v7 (.slice Option.none 0 0) O X [] :=
 ⟨h.o,h.x,Stg.nil _ _,h.a57,(by by_cases e:v5.ownBlock=Option.none;exact Or.inl e;exact Or.inr e),(by by_cases e:v7.ownBlock=Option.none;exact Or.inl e;exact Or.inr e),h.g⟩
set_option maxHeartbeats 8000000 in
theorem ztr (w:World) (base:Nat) (v1 v2:Value) (S:List ObE) (h:RSet w base v1 v2 S) (hS:SetS S) (x0:List UInt8) :
  Calls Tryz.prog 53 #[.agg #[v1,v2],.string (str x0)] w fun e w'=>∃ (v:Value) (T:List (List UInt8)),e = .returned v∧Stg w' w.heap.size v T∧T.length≤90000∧(∀ x,x∈T↔Rch (prS S) [x0] x)∧w.grownBy w' none:=by
 obtain ⟨a1,c1,e1⟩:=zbd h.ids
 obtain ⟨a2,c2,e2⟩:=zbd h.obs
 obtain ⟨n1,hn1⟩:∃ n,n=(idsS S).length:=⟨_,rfl⟩
 obtain ⟨n2,hn2⟩:∃ n,n=S.length:=⟨_,rfl⟩
 rw[← hn1] at e1
 rw[← hn2] at e2
 subst e1 e2
 obtain ⟨U,hU⟩:∃ U,U=(zhh (fun e=>(telC e.k e.d).2.pars) S [x0]).length:=⟨_,rfl⟩
 have hU9:U≤90000:=by rw[hU];exact zm8 _ (fun e=>Nat.le_trans (zkr _ _).1 (by decide)) S hS [x0] (by simp)
 obtain ⟨W1,hW1,hB1,g1⟩:=zag w 28 [.slice a1 n1 c1,.slice a2 n2 c2]
 obtain ⟨W2,hW2,hB2,g2⟩:=zag W1 9 (stR x0)
 have cpl:∀ V x,W1.grownBy V none→Calls Tryz.prog 58 #[.agg #[.slice a1 n1 c1,.slice a2 n2 c2],.string (str x)] V fun e w'=>∃ (v:Value) (t:Nat) (b:Bool),e = .returned (.tuple #[v,.int .u64 (t:Int),.bool b])∧Stg w' V.heap.size v (prS S x)∧comS S x=(if b=true then some t else none)∧V.grownBy w' none:=fun V x gV=>zl1 V base _ _ S (h.kept (tn g1 gV)) hS x
 obtain ⟨TX0,hTX0⟩:∃ T,T=str x0:=⟨_,rfl⟩
 have HBS0:Hid ((Instr.buildSlice 25 1 #[(0,.string TX0)]).run Tryz.prog W1 = .ok (.slice (some ⟨W1.heap.size,0,none⟩) 1 1) W2):=by rw[hW2,hTX0];exact zjq _ W1
 have HST:Hid (Bf3 W1 W2 (.slice none 0 0) (.slice (some ⟨W1.heap.size,0,none⟩) 1 1) (.slice none 0 0) [] [x0] []):=⟨Stg.nil _ _,ztq hB2 (Nat.le_refl _),Stg.nil _ _,Or.inl rfl,Or.inl rfl,Or.inr (by simp[Value.ownBlock]),g2⟩
 rw[← hTX0]
 obtain ⟨HW1,HB1,HG1,HPL,HUU⟩:=zh5 hW1 hB1 g1 cpl hU
 clear hW1 hB1 g1 cpl hn1 hn2 hS hU h hW2 hB2 g2 hTX0
 go_enter Tryz.func53,Tryz.ntmps53
 go_wp2_with (first
  | (rw[← uh HW1])
  | (refine zaq rfl 25 _ rfl (.string TX0) _ rfl (uh HBS0) ?_))
 go_loopg [5,6,7,8,9,10,11] (2*U+1) (fun gk v5 v6 _x7 _x8 _x9 _x10 _x11 wr=>∃ (O N:List (List UInt8)) (na:Option Addr) (nn nc:Nat),v6 = .slice na nn nc∧nn=N.length∧nn≤4000000∧Bf3 W1 wr v5 v6 (.slice none 0 0) O N []∧O.Nodup∧Rnd (prS S) [x0] O N []∧2*(U - O.length)+(if nn=0 then 0 else 1)≤gk∧O.length≤U)
 case atStart=>exact ⟨[],[x0],_,1,1,rfl,rfl,by omega,uh HST,List.Pairwise.nil,Rnd.start _ _,(by simp),Nat.zero_le _⟩
 case round =>
  obtain ⟨O,N,na,nn,nc,rfl,hnn,hnn9,hB3,hOr,hRd,hgk,hOU⟩:=hrel
  obtain ⟨WR,hWR⟩:∃ V,V=wr:=⟨_,rfl⟩
  subst hWR
  by_cases h0:nn=0
  ·subst h0
   have hN0:N=[]:=List.eq_nil_of_length_eq_zero hnn.symm
   subst hN0
   have HFIN:=hide hRd.done
   have HO5:=hide hB3
   clear hRd hgk hnn hB3
   go_wp2
   go_ret
   exact ⟨_,O,rfl,za7 (uh HO5).o (uh HG1).size,Nat.le_trans hOU hU9,uh HFIN,tn (uh HG1) (uh HO5).g⟩
  ·have h0i:(0:Int)<(nn:Int):=by omega
   have h0n:0<nn:=by omega
   have HRI:Hid (BefI S [x0] O N [] O.length 0):=⟨by simpa using hRd,hOr,Or.inr rfl,Nat.le_refl _,Nat.zero_le _⟩
   obtain ⟨HNN,HB3⟩:=zh2 hnn hB3
   clear hRd hOr hnn hB3
   go_wp2_with fail
   go_loopw [5,7,8,9,10,11] (fun v5 v7 i _x9 _x10 _x11 wr=>∃ (j:Nat) (O' X:List (List UInt8)),i = .int .i64 j∧j≤nn∧Hid (BefI S [x0] O' N X O.length j)∧Bf3 W1 wr v5 (.slice na nn nc) v7 O' N X) (fun _ _ i _ _ _ _=>nn - (intOf i).toNat)
   case atStart=>exact ⟨0,O,[],rfl,Nat.zero_le _,HRI,uh HB3⟩
   case round =>
    obtain ⟨j,O',X,rfl,hj,HI,hb⟩:=hrel
    have hOn:O'.length≤90000:=Nat.le_trans (uh HI).few (by rw[← uh HUU];exact hU9)
    by_cases hlt:j<nn
    ·have hjN:j<N.length:=by rw[← uh HNN];exact hlt
     obtain ⟨na2,nc2,e62,hNr,_⟩:=hb.n.rws
     have hee:na2=na∧nc2=nc:=by injection e62 with q1 q2 q3;exact ⟨q1.symm,q3.symm⟩
     obtain ⟨rfl,rfl⟩:=hee
     clear e62
     obtain ⟨b,o,hna,hcj⟩:=hNr.txt j hjN
     obtain ⟨oa,oc,e5,hStl⟩:=hb.o.open
     have ch:=zkd wr W1.heap.size oa oc O' hStl N[j] (by omega)
     have hskip:=(uh HI).skip hjN
     have htake:=(uh HI).take hjN
     obtain ⟨x,hx⟩:∃ x,x=N[j]:=⟨_,rfl⟩
     obtain ⟨on,hon⟩:∃ n,n=O'.length:=⟨_,rfl⟩
     rw[← hon] at e5 ch
     rw[← hx] at hcj ch hskip htake
     obtain ⟨TX,hTX⟩:∃ T,T=str x:=⟨_,rfl⟩
     rw[← hTX] at hcj ch
     have hjw:IntKind.i64.wrap ((j:Int)+1)=(j:Int)+1:=by rw[IntKind.wrap_i64];omega
     have HBST:Hid (∀ W:World,(Instr.buildSlice 25 1 #[(0,.string TX)]).run Tryz.prog W = .ok (.slice (some ⟨W.heap.size,0,none⟩) 1 1) (W.alloc (.cells (stR x).toArray 9))):=fun W=>by rw[hTX];exact zjq _ W
     obtain ⟨HTX,HSK,HTK,HNW,HB,HX9⟩:=zh6 hTX hskip htake hNr hb hx
     subst e5
     clear hskip htake hNr hTX hon hx hStl hb
     by_cases hin:x∈O'
     ·have hct:O'.contains x=true:=by simpa using hin
      rw[hct] at ch
      clear hct
      subst hna
      go_wp2_with (go_at_call 51;refine ch.mono ?_;rintro e w2 ⟨rfl,g2⟩;clear ch)
      go_roundw
      case rel=>exact ⟨j+1,O',X,by go_num,by omega,uh HSK hin,(uh HB).none g2⟩
      case measure=>simp[intOf];omega
     ·have hct:O'.contains x=false:=by simpa using hin
      rw[hct] at ch
      have HT3:=hide (uh HTK hin)
      clear hct hin
      subst hna
      go_upto_region 10 with (first
       | (go_at_call 51;refine ch.mono ?_;rintro e w2 ⟨rfl,g2⟩;clear ch;have hc2:=g2.cell hcj (by simp);obtain ⟨W5,hW5,hB5,g5⟩:=zag w2 9 (stR x);have hbs:=uh HBST w2;rw[← hW5] at hbs;have HBSx:=hide hbs;have HE5:=hide (Rws.one (K:=1) (f:=stR) hB5);have HB5:=hide (((uh HB).none g2).none g5);clear hbs hW5 hB5 g5 g2 hcj)
       | (refine zaq rfl 25 _ rfl (.string TX) _ rfl (uh HBSx) ?_)
       | (refine zbx rfl _ _ rfl W1.heap.size (.slice oa on oc) _ [x] rfl (uh HB5).o _ 1 1 rfl rfl (uh HE5) (by show _+1≤_;omega) (uh HB5).g.size ?_;intro v9 w9 h9 g9 hat9;have HB9:=hide ((uh HB5).addO h9 g9 hat9);clear h9 g9 hat9))
      have hjN2:j<N.length:=by rw[← uh HNN];exact hlt
      have hcj9:w9.cell? ⟨b,o+j,none⟩=some (.string TX):=by
       obtain ⟨na3,nc3,e63,hNr3,_⟩:=(uh HB9).n.rws
       obtain ⟨b3,o3,h3,hc3⟩:=hNr3.txt j hjN2
       injection e63 with q1 q2 q3
       rw[h3] at q1
       injection q1 with q1
       injection q1 with q4 q5
       rw[← uh HX9,← uh HTX] at hc3
       rw[q4,q5]
       exact hc3
      have hrs:w9.rangeAt w.heap.size 0 [Value.slice a1 n1 c1,Value.slice a2 n2 c2]:=zaf (zal (uh HB1)) (uh HB9).g (by simp)
      have h0:w9.grownBy w9.drew none:=zak (zab _ _)
      have hcp:=uh HPL w9.drew x (tn (uh HB9).g h0)
      rw[← uh HTX] at hcp
      clear HX9 hjN hjN2
      refine wp_region_noPanic ?_
      refine wp_region_held_drew (S:=fun V=>w9.grownBy V none) (by kernel_rfl) h0 (fun _ => ?_)
      refine tz 0 38 (.load 28 (.tmp 2)) (.agg [Value.slice a1 n1 c1,Value.slice a2 n2 c2].toArray) h0 ?_ (y:=(yieldsIf_load_mid (by rfl) _ _ rfl _ _ rfl [Value.slice a1 n1 c1,Value.slice a2 n2 c2] _ (fun V hV=>zaf hrs hV (by simp)) Tryz.underlying28 rfl zas))
      refine tq 1 39 (.move (.tmp 6)) ((.slice (some ⟨b,o,none⟩) nn nc2)) h0 ?_
      refine tq 2 40 (.move (.tmp 8)) ((.int .i64 ((j:Int)))) h0 ?_
      refine tq 3 41 (.indexAddr 25 (.tmp 39) (.tmp 40)) ((.pointer (some ⟨b,o+j,none⟩))) h0 ?_
      (try simp only[pq])
      refine tz 4 42 (.load 9 (.tmp 41)) ((.string TX)) h0 ?_ (y:=(Or.inl ⟨by rfl,fun V hV=>by (have hv1:=hV.cell hcj9 (by simp);go_simp)⟩))
      (try simp only[pq])
      refine rd 5 (some 43) (.call { callee := .value (.func 58),args := #[(.tmp 38),(.tmp 42)],argTypes := #[28,9] }) (fun K9 hK9 => ?_)
      go_simp
      go_at_call 58
      refine (hcp).mono ?_
      rintro e w4 ⟨pv,tm,pb,rfl,hpv,hpc,g4⟩
      obtain ⟨pa,pc,ep,hPr,_⟩:=hpv.rws
      obtain ⟨pn,hpn⟩:∃ n,n=(prS S x).length:=⟨_,rfl⟩
      rw[← hpn] at ep
      subst ep
      have h4:=tn h0 g4
      clear hpv g4
      obtain ⟨pb9,hpb9⟩:∃ z,z=Value.bool pb:=⟨_,rfl⟩
      rw[← hpb9]
      clear hpb9 hpc
      go_wp2_with fail
      refine hK9.out _ _ h4 (fun _ => ?_)
      clear hK9 K9
      refine tq 6 37 (.move (.tmp 43)) ((.tuple #[.slice pa pn pc,.int .u64 (tm:Int),pb9])) h4 ?_
      refine tq 7 44 (.extract (.tmp 37) 0) ((.slice pa pn pc)) h4 ?_
      refine tq 8 45 (.extract (.tmp 37) 1) ((.int .u64 (tm:Int))) h4 ?_
      (try simp only[pq])
      refine tq 9 46 (.extract (.tmp 37) 2) ((pb9)) h4 ?_
      refine tq 10 9 (.assign (.tmp 44)) ((.slice pa pn pc)) h4 ?_
      refine tq 11 10 (.assign (.tmp 45)) ((.int .u64 (tm:Int))) h4 ?_
      refine tq 12 11 (.assign (.tmp 46)) ((pb9)) h4 ?_
      (try simp only[pq])
      refine wpAnyH_done (by kernel_rfl) ?_ _
      refine NoPanic.normal ?_
      have HB4:=hide ((uh HB9).none h4)
      obtain ⟨HPR,HPN⟩:=zh2 hPr hpn
      have hp4:pn≤4:=by rw[hpn];exact (zdz S x).1
      have hxl:=(uh HI).len
      clear hcj9 hrs h4 hPr hpn h0 hcp
      go_wp2_with (refine zbx rfl _ _ rfl W1.heap.size u7 X (prS S x) rfl (uh HB4).x pa pn pc rfl (uh HPN) (uh HPR) (by rw[← uh HPN];omega) (uh HB4).g.size ?_;intro v8 w8 hX8 g8 hat;have HB8:=hide ((uh HB4).addX hX8 g8 hat);clear hX8 g8 hat)
      go_roundw
      case rel=>exact ⟨j+1,_,X++prS S x,by go_num,by omega,uh HT3,uh HB8⟩
      case measure=>simp[intOf];omega
    ·have hjn:j=N.length:=by rw[← uh HNN];omega
     have hI:=uh HI
     have hrd:Rnd (prS S) [x0] O' [] X:=by have:=hI.rnd;rwa [hjn,List.drop_length] at this
     obtain ⟨xa,xc,e7,hXr,_⟩:=hb.x.rws
     obtain ⟨xn,hxn⟩:∃ n,n=X.length:=⟨_,rfl⟩
     rw[← hxn] at e7
     subst e7
     have hx9:xn≤4000000:=by rw[hxn];have:=hI.len;omega
     have hOU' : O'.length≤U:=by rw[uh HUU];exact hI.few
     have hms:2*(U - O'.length)+(if xn=0 then 0 else 1)<gk:=by
      rw[if_neg h0] at hgk
      rcases hI.more with q | q
      ·split <;> omega
      ·have:xn=0:=by rw[hxn,q];rfl
       rw[if_pos this]
       have:=hI.le
       omega
     have HMS:=hide hms
     have HRD:=hide hrd.turn
     have HRS:=hide hI.nod
     have HXN:=hide hxn
     have HBF:=hide hb.new
     clear hjn hI hrd hXr hxn hms hb hgk
     go_wp2
     go_roundg (2*(U - O'.length)+(if xn=0 then 0 else 1))
     case measure=>exact uh HMS
     case rel=>exact ⟨O',X,xa,xn,xc,rfl,uh HXN,hx9,uh HBF,uh HRS,uh HRD,Nat.le_refl _,hOU'⟩
theorem zts (w:World) (base:Nat) (v1 v2:Value) (S:List ObE) (h:RSet w base v1 v2 S) (hS:SetS S) (x y:List UInt8) :
  Calls Tryz.prog 27 #[.agg #[v1,v2],.string (str x),.string (str y)] w fun e w'=>∃ b,e = .returned (.bool b)∧(b=true↔Rch (prS S) [x] y)∧w.grownBy w' none:=by
 obtain ⟨a1,c1,e1⟩:=zbd h.ids
 obtain ⟨a2,c2,e2⟩:=zbd h.obs
 obtain ⟨n1,hn1⟩:∃ n,n=(idsS S).length:=⟨_,rfl⟩
 obtain ⟨n2,hn2⟩:∃ n,n=S.length:=⟨_,rfl⟩
 rw[← hn1] at e1
 rw[← hn2] at e2
 subst e1 e2
 obtain ⟨W1,hW1,hB1,g1⟩:=zag w 28 [.slice a1 n1 c1,.slice a2 n2 c2]
 have cb:=ztr W1 base _ _ S (h.kept g1) hS x
 have hr1:=zal hB1
 obtain ⟨TX,hTX⟩:∃ T,T=str x:=⟨_,rfl⟩
 obtain ⟨TY,hTY⟩:∃ T,T=str y:=⟨_,rfl⟩
 rw[← hTX] at cb
 rw[← hTX,← hTY]
 obtain ⟨HTY,HW1,HG1⟩:=zh3 hTY hW1 g1
 clear hW1 hB1 g1 hn1 hn2 hS h hTX hTY
 go_enter Tryz.func27,Tryz.ntmps27
 go_wp2_with (first
  | (rw[← uh HW1])
  | (refine wpList_load_mid rfl 28 _ rfl w.heap.size 0 rfl [.slice a1 n1 c1,.slice a2 n2 c2] _ hr1 Tryz.underlying28 rfl zas ?_;clear hr1))
 refine cb.mono ?_
 rintro e w2 ⟨v,T,rfl,hT,hTl,hTm,g2⟩
 clear cb
 obtain ⟨oa,oc,e5,hStl⟩:=hT.open
 have ch:=zkd w2 _ oa oc T hStl y (Nat.le_trans hTl (by decide))
 obtain ⟨on,hon⟩:∃ n,n=T.length:=⟨_,rfl⟩
 rw[← hon] at e5 ch
 rw[← uh HTY] at ch
 subst e5
 have HG2:=hide (tn (uh HG1) g2)
 have HTM:=hide hTm
 clear hT hTl hon hStl g2 hTm
 go_wp2_with fail
 refine ch.mono ?_
 rintro e w3 ⟨rfl,g3⟩
 clear ch
 go_wp2
 go_ret
 exact ⟨_,rfl,by rw[← uh HTM];simp,tn (uh HG2) g3⟩
set_option maxHeartbeats 8000000 in
theorem ztt (w:World) (base:Nat) (v1 v2:Value) (S:List ObE) (h:RSet w base v1 v2 S) (hS:SetS S) (tip:List UInt8) :
  Calls Tryz.prog 29 #[.agg #[v1,v2],.string (str tip)] w fun e w'=>∃ (v:Value) (T:List (List UInt8)),e = .returned v∧Stg w' w.heap.size v T∧zi1 S tip T∧w.grownBy w' none:=by
 obtain ⟨a1,c1,e1⟩:=zbd h.ids
 obtain ⟨a2,c2,e2⟩:=zbd h.obs
 obtain ⟨n1,hn1⟩:∃ n,n=(idsS S).length:=⟨_,rfl⟩
 obtain ⟨n2,hn2⟩:∃ n,n=S.length:=⟨_,rfl⟩
 rw[← hn1] at e1
 rw[← hn2] at e2
 subst e1 e2
 obtain ⟨W1,hW1,hB1,g1⟩:=zag w 28 [.slice a1 n1 c1,.slice a2 n2 c2]
 have cpl:∀ V x,W1.grownBy V none→Calls Tryz.prog 58 #[.agg #[.slice a1 n1 c1,.slice a2 n2 c2],.string (str x)] V fun e w'=>∃ (v:Value) (t:Nat) (b:Bool),e = .returned (.tuple #[v,.int .u64 (t:Int),.bool b])∧Stg w' V.heap.size v (prS S x)∧comS S x=(if b=true then some t else none)∧V.grownBy w' none:=fun V x gV=>zl1 V base _ _ S (h.kept (tn g1 gV)) hS x
 have hS9:n1≤1000:=by have:=hS.few;rw[hn1];simpa[idsS] using this
 have hn1S:n1=S.length:=by rw[hn1];simp[idsS]
 have cp1:=cpl W1 tip (zab _ _)
 have hr1:=zal hB1
 obtain ⟨TP,hTP⟩:∃ T,T=str tip:=⟨_,rfl⟩
 have HBST:Hid (∀ W:World,(Instr.buildSlice 25 1 #[(0,.string TP)]).run Tryz.prog W = .ok (.slice (some ⟨W.heap.size,0,none⟩) 1 1) (W.alloc (.cells (stR tip).toArray 9))):=fun W=>by rw[hTP];exact zjq _ W
 rw[← hTP] at cp1 ⊢
 obtain ⟨HW1,HB1,HG1,HPL,HN1⟩:=zh5 hW1 hB1 g1 cpl hn1S
 clear hW1 hB1 g1 cpl hn1 hn2 hS h hTP hn1S
 go_enter Tryz.func29,Tryz.ntmps29
 go_wp2_with (first
  | (rw[← uh HW1])
  | (refine wpList_load_mid rfl 28 _ rfl w.heap.size 0 rfl [.slice a1 n1 c1,.slice a2 n2 c2] _ hr1 Tryz.underlying28 rfl zas ?_;clear hr1))
 refine cp1.mono ?_
 rintro e w2 ⟨v6,t7,b8,rfl,hv6,hc8,g2⟩
 clear cp1 hv6
 cases b8 with
 | false =>
  have HC:=hide hc8
  clear hc8
  go_wp2
  go_ret
  exact ⟨_,[],rfl,Stg.nil _ _,Or.inl ⟨uh HC,rfl⟩,tn (uh HG1) g2⟩
 | true =>
  have HLP:Hid (LogP S tip [tip]):=LogP.one (by rw[hc8];rfl)
  obtain ⟨W3,hW3,hB3,g3⟩:=zag w2 9 (stR tip)
  have hbs:=uh HBST w2
  rw[← hW3] at hbs
  have HBS:=hide hbs
  have HE3:=hide (Rws.one (K:=1) (f:=stR) hB3)
  have HG3:=hide (tn g2 g3)
  clear hbs hW3 hB3 g3 g2 hc8
  go_wp2_with (first
   | (refine zaq rfl 25 _ rfl (.string TP) _ rfl (uh HBS) ?_)
   | (refine zbx rfl _ _ rfl W1.heap.size (.slice none 0 0) [] [tip] rfl (Stg.nil _ _) _ 1 1 rfl rfl (uh HE3) (by simp) (uh HG3).size ?_;intro v5 w4 h5 g5 _;have HO4:=hide h5;have HG4:=hide (tn (uh HG3) g5);clear h5 g5))
  go_loopw [5,9,10,11,12,13,14,15,16,17,18,19,20] (fun v5 i _x10 _x11 _x12 _x13 _x14 _x15 _x16 _x17 _x18 _x19 _x20 wr=>∃ (j:Nat) (T:List (List UInt8)),i = .int .i64 j∧T.length=j+1∧Hid (LogP S tip T)∧Stg wr W1.heap.size v5 T∧W1.grownBy wr none) (fun _ i _ _ _ _ _ _ _ _ _ _ _ _=>n1+1 - (intOf i).toNat)
  case atStart=>exact ⟨0,[tip],rfl,rfl,HLP,uh HO4,uh HG4⟩
  case round =>
   obtain ⟨j,T,rfl,hTl,HL,hO,hg⟩:=hrel
   obtain ⟨WR,hWR⟩:∃ V,V=wr:=⟨_,rfl⟩
   subst hWR
   have hT1:T.length≤n1:=by rw[uh HN1];exact (uh HL).few
   have hjn:(j:Int)≤(n1:Int):=by omega
   obtain ⟨oa,oc,e5,hStl⟩:=hO.open
   obtain ⟨oa2,oc2,e52,hRws,_⟩:=hO.rws
   have hee:oa2=oa∧oc2=oc:=by rw[e5] at e52;injection e52 with q1 q2 q3;exact ⟨q1.symm,q3.symm⟩
   obtain ⟨rfl,rfl⟩:=hee
   clear e52
   obtain ⟨tl,htl⟩:∃ n,n=T.length:=⟨_,rfl⟩
   rw[← htl] at e5 hTl hT1
   subst e5
   have hcS:WR.cell? ⟨w.heap.size,0,none⟩=some (.slice a1 n1 c1):=by rw[((uh HB1).kept hg (by simp)).cell];rfl
   have hjw:IntKind.i64.wrap ((j:Int)+1)=(j:Int)+1:=by rw[IntKind.wrap_i64];omega
   obtain ⟨HTL,HSTL,HRW,HO,HG,HTJ⟩:=zh6 htl hStl hRws hO hg hTl
   clear hStl hRws hO hg htl hTl
   go_wp2_with fail
   go_loopw [10,11,12,13,14,15,16,17,18,19,20] (fun v10 v11 v12 i _x14 _x15 _x16 _x17 _x18 _x19 _x20 wr=>∃ (i9 m:Nat) (f:Bool) (bb:List UInt8),i = .int .i64 i9∧i9≤tl∧v10 = .string (str bb)∧v11 = .int .u64 (m:Int)∧v12 = .bool f∧Hid (Best S T (Gone S T i9 0) f bb m)∧WR.grownBy wr none) (fun _ _ _ i _ _ _ _ _ _ _ _=>tl - (intOf i).toNat)
   case atStart=>exact ⟨0,0,false,[],rfl,Nat.zero_le _,rfl,rfl,rfl,hide (by rw[ztm];exact Best.nil _ _ _ _),zab _ _⟩
   case round =>
    obtain ⟨i9,m,f,bb,rfl,hi9,rfl,rfl,rfl,HBE,hgr⟩:=hrel
    by_cases hlt:i9<tl
    ·have hiT:i9<T.length:=by rw[← uh HTL];exact hlt
     obtain ⟨ob,oo,hna,hcj⟩:=((uh HRW).kept hgr).txt i9 hiT
     obtain ⟨x,hx⟩:∃ x,x=T[i9]:=⟨_,rfl⟩
     rw[← hx] at hcj
     obtain ⟨TX,hTX⟩:∃ T,T=str x:=⟨_,rfl⟩
     rw[← hTX] at hcj
     have hiw:IntKind.i64.wrap ((i9:Int)+1)=(i9:Int)+1:=by rw[IntKind.wrap_i64];omega
     have hrs:wr.rangeAt w.heap.size 0 [Value.slice a1 n1 c1,Value.slice a2 n2 c2]:=zaf (zal (uh HB1)) (tn (uh HG) hgr) (by simp)
     have h0:wr.grownBy wr.drew none:=zak (zab _ _)
     have hcp:=uh HPL wr.drew x (tn (tn (uh HG) hgr) h0)
     rw[← hTX] at hcp
     have HGR:=hide hgr
     have HNX:Hid (Gone S T (i9+1) 0=Gone S T i9 (prS S x).length):=by rw[hx];exact ztn S T i9 _ hiT rfl
     have HMO:Hid (∀ k (hk:k<(prS S x).length),Gone S T i9 (k+1)=Gone S T i9 k++[(prS S x)[k]]):=by subst hx;exact fun k hk=>zto S T i9 k hiT hk
     have HNA:=hide hna
     obtain ⟨BBT,hBBT⟩:∃ z,z=str bb:=⟨_,rfl⟩
     rw[← hBBT]
     have HBBT:=hide hBBT
     have HBE2:=HBE
     clear hgr hx hTX hiT HBE hBBT
     subst hna
     go_upto_region 15 with fail
     refine wp_region_noPanic ?_
     refine wp_region_held_drew (S:=fun V=>wr.grownBy V none) (by kernel_rfl) h0 (fun _ => ?_)
     refine tz 0 48 (.load 28 (.tmp 2)) (.agg [Value.slice a1 n1 c1,Value.slice a2 n2 c2].toArray) h0 ?_ (y:=(yieldsIf_load_mid (by rfl) _ _ rfl _ _ rfl [Value.slice a1 n1 c1,Value.slice a2 n2 c2] _ (fun V hV=>zaf hrs hV (by simp)) Tryz.underlying28 rfl zas))
     refine tq 1 49 (.move (.tmp 5)) ((.slice (some ⟨ob,oo,none⟩) tl oc2)) h0 ?_
     refine tq 2 50 (.move (.tmp 13)) ((.int .i64 ((i9:Int)))) h0 ?_
     refine tq 3 51 (.indexAddr 25 (.tmp 49) (.tmp 50)) ((.pointer (some ⟨ob,oo+i9,none⟩))) h0 ?_
     (try simp only[pq])
     refine tz 4 52 (.load 9 (.tmp 51)) ((.string TX)) h0 ?_ (y:=(Or.inl ⟨by rfl,fun V hV=>by (have hv1:=hV.cell hcj (by simp);go_simp)⟩))
     (try simp only[pq])
     refine rd 5 (some 53) (.call { callee := .value (.func 58),args := #[(.tmp 48),(.tmp 52)],argTypes := #[28,9] }) (fun K9 hK9 => ?_)
     go_simp
     go_at_call 58
     refine (hcp).mono ?_
     rintro e w4 ⟨pv,tm,pb,rfl,hpv,hpc,g4⟩
     obtain ⟨pa,pc,ep,hPr,_⟩:=hpv.rws
     obtain ⟨pn,hpn⟩:∃ n,n=(prS S x).length:=⟨_,rfl⟩
     rw[← hpn] at ep
     subst ep
     have h4:=tn h0 g4
     clear hpv g4 hpc
     obtain ⟨pb9,hpb9⟩:∃ z,z=Value.bool pb:=⟨_,rfl⟩
     rw[← hpb9]
     clear hpb9
     go_wp2_with fail
     refine hK9.out _ _ h4 (fun _ => ?_)
     clear hK9 K9
     refine tq 6 47 (.move (.tmp 53)) ((.tuple #[.slice pa pn pc,.int .u64 (tm:Int),pb9])) h4 ?_
     refine tq 7 54 (.extract (.tmp 47) 0) ((.slice pa pn pc)) h4 ?_
     refine tq 8 55 (.extract (.tmp 47) 1) ((.int .u64 (tm:Int))) h4 ?_
     (try simp only[pq])
     refine tq 9 56 (.extract (.tmp 47) 2) ((pb9)) h4 ?_
     refine tq 10 14 (.assign (.tmp 54)) ((.slice pa pn pc)) h4 ?_
     refine tq 11 15 (.assign (.tmp 55)) ((.int .u64 (tm:Int))) h4 ?_
     refine tq 12 16 (.assign (.tmp 56)) ((pb9)) h4 ?_
     (try simp only[pq])
     refine wpAnyH_done (by kernel_rfl) ?_ _
     refine NoPanic.normal ?_
     obtain ⟨HPR,HPN⟩:=zh2 hPr hpn
     have HG4:=hide (tn (uh HGR) h4)
     clear hcj hrs h4 hPr h0 hcp
     rw[← hpn] at HNX
     have hp4:pn≤4:=by rw[hpn];exact (zdz S x).1
     clear hpn
     go_wp2_with fail
     go_loopw [10,11,12,17,18,19,20] (fun v10 v11 v12 i _x18 _x19 _x20 wr=>∃ (k m:Nat) (f:Bool) (bb:List UInt8),i = .int .i64 k∧k≤pn∧v10 = .string (str bb)∧v11 = .int .u64 (m:Int)∧v12 = .bool f∧Hid (Best S T (Gone S T i9 k) f bb m)∧w4.grownBy wr none) (fun _ _ _ i _ _ _ _=>pn - (intOf i).toNat)
     case atStart=>exact ⟨0,m,f,bb,rfl,Nat.zero_le _,by rw[← uh HBBT],rfl,rfl,HBE2,zab _ _⟩
     case round =>
      obtain ⟨k,m,f,bb,rfl,hk,rfl,rfl,rfl,HBE,hgk⟩:=hrel
      by_cases hltk:k<pn
      ·have hkP:k<(prS S x).length:=by rw[← uh HPN];exact hltk
       obtain ⟨b,o,hpa,hcj⟩:=((uh HPR).kept hgk).txt k hkP
       have hmo:=uh HMO k hkP
       obtain ⟨y,hy⟩:∃ y,y=(prS S x)[k]:=⟨_,rfl⟩
       rw[← hy] at hcj hmo
       obtain ⟨TY,hTY⟩:∃ T,T=str y:=⟨_,rfl⟩
       rw[← hTY] at hcj
       have hkw:IntKind.i64.wrap ((k:Int)+1)=(k:Int)+1:=by rw[IntKind.wrap_i64];omega
       have hrs:wr.rangeAt w.heap.size 0 [Value.slice a1 n1 c1,Value.slice a2 n2 c2]:=zaf (zal (uh HB1)) (tn (tn (uh HG) (uh HG4)) hgk) (by simp)
       have h0:wr.grownBy wr.drew none:=zak (zab _ _)
       have hcp:=uh HPL wr.drew y (tn (tn (tn (uh HG) (uh HG4)) hgk) h0)
       rw[← hTY] at hcp
       obtain ⟨HGK,HMO2⟩:=zh2 hgk hmo
       obtain ⟨BBT,hBBT⟩:∃ z,z=str bb:=⟨_,rfl⟩
       rw[← hBBT]
       have hLB:BBT.toList=bb:=by rw[hBBT,za5]
       have hLY:TY.toList=y:=by rw[hTY,za5]
       obtain ⟨HBBT,HTY⟩:=zh2 hBBT hTY
       clear hgk hy hTY hkP hBBT hmo
       subst hpa
       go_upto_region 19 with fail
       refine wp_region_noPanic ?_
       refine wp_region_held_drew (S:=fun V=>wr.grownBy V none) (by kernel_rfl) h0 (fun _ => ?_)
       refine tz 0 64 (.load 28 (.tmp 2)) (.agg [Value.slice a1 n1 c1,Value.slice a2 n2 c2].toArray) h0 ?_ (y:=(yieldsIf_load_mid (by rfl) _ _ rfl _ _ rfl [Value.slice a1 n1 c1,Value.slice a2 n2 c2] _ (fun V hV=>zaf hrs hV (by simp)) Tryz.underlying28 rfl zas))
       refine tq 1 65 (.move (.tmp 14)) ((.slice (some ⟨b,o,none⟩) pn pc)) h0 ?_
       refine tq 2 66 (.move (.tmp 17)) ((.int .i64 ((k:Int)))) h0 ?_
       refine tq 3 67 (.indexAddr 25 (.tmp 65) (.tmp 66)) ((.pointer (some ⟨b,o+k,none⟩))) h0 ?_
       (try simp only[pq])
       refine tz 4 68 (.load 9 (.tmp 67)) ((.string TY)) h0 ?_ (y:=(Or.inl ⟨by rfl,fun V hV=>by (have hv1:=hV.cell hcj (by simp);go_simp)⟩))
       (try simp only[pq])
       refine rd 5 (some 69) (.call { callee := .value (.func 58),args := #[(.tmp 64),(.tmp 68)],argTypes := #[28,9] }) (fun K9 hK9 => ?_)
       go_simp
       go_at_call 58
       refine (hcp).mono ?_
       rintro e w5 ⟨pv,tm,pb,rfl,hpv,hcm5,g5⟩
       obtain ⟨qa,qc,eq⟩:=zbd hpv
       obtain ⟨qn,hqn⟩:∃ n,n=(prS S y).length:=⟨_,rfl⟩
       rw[← hqn] at eq
       subst eq
       have h5:=tn h0 g5
       clear hpv g5 hqn
       go_wp2_with fail
       refine hK9.out _ _ h5 (fun _ => ?_)
       clear hK9 K9
       refine tq 6 63 (.move (.tmp 69)) ((.tuple #[.slice qa qn qc,.int .u64 (tm:Int),.bool pb])) h5 ?_
       refine tq 7 70 (.extract (.tmp 63) 0) ((.slice qa qn qc)) h5 ?_
       refine tq 8 71 (.extract (.tmp 63) 1) ((.int .u64 (tm:Int))) h5 ?_
       (try simp only[pq])
       refine tq 9 72 (.extract (.tmp 63) 2) ((.bool pb)) h5 ?_
       refine tq 10 18 (.assign (.tmp 70)) ((.slice qa qn qc)) h5 ?_
       refine tq 11 19 (.assign (.tmp 71)) ((.int .u64 (tm:Int))) h5 ?_
       refine tq 12 20 (.assign (.tmp 72)) ((.bool pb)) h5 ?_
       (try simp only[pq])
       refine wpAnyH_done (by kernel_rfl) ?_ _
       refine NoPanic.normal ?_
       have HG5:=hide (tn (uh HGK) h5)
       have hc5:=h5.cell hcj (by simp)
       have hh:=zkd w5 W1.heap.size (some ⟨ob,oo,none⟩) oc2 T ((uh HSTL).kept (tn (uh HG4) (uh HG5))) y (by rw[← uh HTL];omega)
       rw[← uh HTL,← uh HTY] at hh
       obtain ⟨HHH,HCM⟩:=zh2 hh hcm5
       clear hcj hrs h0 hcp h5 hcm5 hh
       go_upto_region 20 with fail
       go_cut [104] (fun x104 wx=>∃ r:Bool,x104 = .bool r∧Hid (if r=true then Best S T (Gone S T i9 k++[y]) true y tm else Best S T (Gone S T i9 k++[y]) f bb m)∧w5.grownBy wx none)
       case first =>
        cases pb with
        | false =>
         have HNB:=hide ((uh HBE).old (y:=y) (fun z=>by have:=z.1;rw[uh HCM] at this;cases this))
         clear hLB hLY hc5
         refine za3 fun O hO => ?_
         refine zaa (by rw[hO];kernel_rfl) (.bool false) (fun K9 hK9=>by go_simp;exact hK9) ?_
         (try simp only[pq])
         refine zaa (by rw[hO];kernel_rfl) (.bool false) (fun K9 hK9=>by go_simp;exact hK9) ?_
         (try simp only[pq])
         refine zac (by rw[hO];kernel_rfl) ?_
         (try simp only[pq])
         refine zac (by rw[hO];kernel_rfl) ?_
         (try simp only[pq])
         refine zac (by rw[hO];kernel_rfl) ?_
         (try simp only[pq])
         refine zac (by rw[hO];kernel_rfl) ?_
         (try simp only[pq])
         refine zac (by rw[hO];kernel_rfl) ?_
         (try simp only[pq])
         refine zac (by rw[hO];kernel_rfl) ?_
         (try simp only[pq])
         refine zac (by rw[hO];kernel_rfl) ?_
         (try simp only[pq])
         refine zaa (by rw[hO];kernel_rfl) (.bool false) (fun K9 hK9=>by go_simp;exact hK9) ?_
         (try simp only[pq])
         refine zaa (by rw[hO];kernel_rfl) (.bool false) (fun K9 hK9=>by go_simp;exact hK9) ?_
         (try simp only[pq])
         refine zac (by rw[hO];kernel_rfl) ?_
         (try simp only[pq])
         refine zac (by rw[hO];kernel_rfl) ?_
         (try simp only[pq])
         refine zac (by rw[hO];kernel_rfl) ?_
         (try simp only[pq])
         refine zac (by rw[hO];kernel_rfl) ?_
         (try simp only[pq])
         refine zac (by rw[hO];kernel_rfl) ?_
         (try simp only[pq])
         refine zac (by rw[hO];kernel_rfl) ?_
         (try simp only[pq])
         refine zac (by rw[hO];kernel_rfl) ?_
         (try simp only[pq])
         refine zac (by rw[hO];kernel_rfl) ?_
         (try simp only[pq])
         refine zac (by rw[hO];kernel_rfl) ?_
         (try simp only[pq])
         refine zac (by rw[hO];kernel_rfl) ?_
         (try simp only[pq])
         refine zac (by rw[hO];kernel_rfl) ?_
         (try simp only[pq])
         refine zac (by rw[hO];kernel_rfl) ?_
         (try simp only[pq])
         refine zac (by rw[hO];kernel_rfl) ?_
         (try simp only[pq])
         refine zac (by rw[hO];kernel_rfl) ?_
         (try simp only[pq])
         refine zac (by rw[hO];kernel_rfl) ?_
         (try simp only[pq])
         refine zac (by rw[hO];kernel_rfl) ?_
         (try simp only[pq])
         refine zac (by rw[hO];kernel_rfl) ?_
         (try simp only[pq])
         refine zac (by rw[hO];kernel_rfl) ?_
         (try simp only[pq])
         refine zac (by rw[hO];kernel_rfl) ?_
         (try simp only[pq])
         refine zac (by rw[hO];kernel_rfl) ?_
         (try simp only[pq])
         refine zaa (by rw[hO];kernel_rfl) (.bool false) (fun K9 hK9=>by go_simp;exact hK9) ?_
         (try simp only[pq])
         go_wp2_with fail
         go_meet
         case rel=>exact ⟨false,rfl,HNB,zab _ _⟩
        | true =>
         have hcm:=uh HCM
         rw[if_pos rfl] at hcm
         cases hct:T.contains y with
         | true =>
          have hyT:y∈T:=by simpa using hct
          have HNB:=hide ((uh HBE).old (y:=y) (fun z=>z.2 hyT))
          have hh:=uh HHH
          rw[hct] at hh
          have HH2:=hide hh
          clear hct hyT hh hcm hLB hLY
          refine za3 fun O hO => ?_
          refine zaa (by rw[hO];kernel_rfl) (.bool true) (fun K9 hK9=>by go_simp;exact hK9) ?_
          (try simp only[pq])
          refine zaa (by rw[hO];kernel_rfl) (.bool true) (fun K9 hK9=>by go_simp;exact hK9) ?_
          (try simp only[pq])
          refine zaa (by rw[hO];kernel_rfl) (.slice (some ⟨ob,oo,none⟩) tl oc2) (fun K9 hK9=>by go_simp;exact hK9) ?_
          (try simp only[pq])
          refine zaa (by rw[hO];kernel_rfl) (.slice (some ⟨b,o,none⟩) pn pc) (fun K9 hK9=>by go_simp;exact hK9) ?_
          (try simp only[pq])
          refine zaa (by rw[hO];kernel_rfl) (.int .i64 ((k:Int))) (fun K9 hK9=>by go_simp;exact hK9) ?_
          (try simp only[pq])
          refine zaa (by rw[hO];kernel_rfl) (.pointer (some ⟨b,o+k,none⟩)) (fun K9 hK9=>by go_simp;exact hK9) ?_
          (try simp only[pq])
          refine zaa (by rw[hO];kernel_rfl) (.string TY) (fun K9 hK9=>by go_simp;exact hK9) ?_
          (try simp only[pq])
          refine zbj (by rw[hO];kernel_rfl) fun K9 hK9 => ?_
          go_simp
          go_at_call 51
          refine (uh HH2).mono ?_
          rintro e w6 ⟨rfl,g6⟩
          have hc6:=g6.cell hc5 (by simp)
          refine hK9 _ _ ?_
          clear hK9 K9
          (try simp only[pq])
          refine zaa (by rw[hO];kernel_rfl) (.bool false) (fun K9 hK9=>by go_simp;exact hK9) ?_
          (try simp only[pq])
          refine zaa (by rw[hO];kernel_rfl) (.bool false) (fun K9 hK9=>by go_simp;exact hK9) ?_
          (try simp only[pq])
          refine zaa (by rw[hO];kernel_rfl) (.bool false) (fun K9 hK9=>by go_simp;exact hK9) ?_
          (try simp only[pq])
          refine zac (by rw[hO];kernel_rfl) ?_
          (try simp only[pq])
          refine zac (by rw[hO];kernel_rfl) ?_
          (try simp only[pq])
          refine zac (by rw[hO];kernel_rfl) ?_
          (try simp only[pq])
          refine zac (by rw[hO];kernel_rfl) ?_
          (try simp only[pq])
          refine zac (by rw[hO];kernel_rfl) ?_
          (try simp only[pq])
          refine zac (by rw[hO];kernel_rfl) ?_
          (try simp only[pq])
          refine zac (by rw[hO];kernel_rfl) ?_
          (try simp only[pq])
          refine zac (by rw[hO];kernel_rfl) ?_
          (try simp only[pq])
          refine zac (by rw[hO];kernel_rfl) ?_
          (try simp only[pq])
          refine zac (by rw[hO];kernel_rfl) ?_
          (try simp only[pq])
          refine zac (by rw[hO];kernel_rfl) ?_
          (try simp only[pq])
          refine zac (by rw[hO];kernel_rfl) ?_
          (try simp only[pq])
          refine zac (by rw[hO];kernel_rfl) ?_
          (try simp only[pq])
          refine zac (by rw[hO];kernel_rfl) ?_
          (try simp only[pq])
          refine zac (by rw[hO];kernel_rfl) ?_
          (try simp only[pq])
          refine zac (by rw[hO];kernel_rfl) ?_
          (try simp only[pq])
          refine zac (by rw[hO];kernel_rfl) ?_
          (try simp only[pq])
          refine zac (by rw[hO];kernel_rfl) ?_
          (try simp only[pq])
          refine zac (by rw[hO];kernel_rfl) ?_
          (try simp only[pq])
          refine zac (by rw[hO];kernel_rfl) ?_
          (try simp only[pq])
          refine zaa (by rw[hO];kernel_rfl) (.bool false) (fun K9 hK9=>by go_simp;exact hK9) ?_
          (try simp only[pq])
          go_wp2_with fail
          go_meet
          case rel=>exact ⟨false,rfl,HNB,g6⟩
         | false =>
          have hyT:y∉T:=by simpa using hct
          have hh:=uh HHH
          rw[hct] at hh
          have HH2:=hide hh
          clear hct hh
          cases f with
          | false =>
           have HNB:=hide ((uh HBE).first hcm hyT)
           clear hyT hcm hLB hLY
           refine za3 fun O hO => ?_
           refine zaa (by rw[hO];kernel_rfl) (.bool true) (fun K9 hK9=>by go_simp;exact hK9) ?_
           (try simp only[pq])
           refine zaa (by rw[hO];kernel_rfl) (.bool true) (fun K9 hK9=>by go_simp;exact hK9) ?_
           (try simp only[pq])
           refine zaa (by rw[hO];kernel_rfl) (.slice (some ⟨ob,oo,none⟩) tl oc2) (fun K9 hK9=>by go_simp;exact hK9) ?_
           (try simp only[pq])
           refine zaa (by rw[hO];kernel_rfl) (.slice (some ⟨b,o,none⟩) pn pc) (fun K9 hK9=>by go_simp;exact hK9) ?_
           (try simp only[pq])
           refine zaa (by rw[hO];kernel_rfl) (.int .i64 ((k:Int))) (fun K9 hK9=>by go_simp;exact hK9) ?_
           (try simp only[pq])
           refine zaa (by rw[hO];kernel_rfl) (.pointer (some ⟨b,o+k,none⟩)) (fun K9 hK9=>by go_simp;exact hK9) ?_
           (try simp only[pq])
           refine zaa (by rw[hO];kernel_rfl) (.string TY) (fun K9 hK9=>by go_simp;exact hK9) ?_
           (try simp only[pq])
           refine zbj (by rw[hO];kernel_rfl) fun K9 hK9 => ?_
           go_simp
           go_at_call 51
           refine (uh HH2).mono ?_
           rintro e w6 ⟨rfl,g6⟩
           have hc6:=g6.cell hc5 (by simp)
           refine hK9 _ _ ?_
           clear hK9 K9
           (try simp only[pq])
           refine zaa (by rw[hO];kernel_rfl) (.bool true) (fun K9 hK9=>by go_simp;exact hK9) ?_
           (try simp only[pq])
           refine zaa (by rw[hO];kernel_rfl) (.bool true) (fun K9 hK9=>by go_simp;exact hK9) ?_
           (try simp only[pq])
           refine zaa (by rw[hO];kernel_rfl) (.bool true) (fun K9 hK9=>by go_simp;exact hK9) ?_
           (try simp only[pq])
           refine zaa (by rw[hO];kernel_rfl) (.bool false) (fun K9 hK9=>by go_simp;exact hK9) ?_
           (try simp only[pq])
           refine zaa (by rw[hO];kernel_rfl) (.bool true) (fun K9 hK9=>by go_simp;exact hK9) ?_
           (try simp only[pq])
           refine zaa (by rw[hO];kernel_rfl) (.bool true) (fun K9 hK9=>by go_simp;exact hK9) ?_
           (try simp only[pq])
           refine zac (by rw[hO];kernel_rfl) ?_
           (try simp only[pq])
           refine zac (by rw[hO];kernel_rfl) ?_
           (try simp only[pq])
           refine zac (by rw[hO];kernel_rfl) ?_
           (try simp only[pq])
           refine zaa (by rw[hO];kernel_rfl) (.bool true) (fun K9 hK9=>by go_simp;exact hK9) ?_
           (try simp only[pq])
           refine zaa (by rw[hO];kernel_rfl) (.bool true) (fun K9 hK9=>by go_simp;exact hK9) ?_
           (try simp only[pq])
           refine zac (by rw[hO];kernel_rfl) ?_
           (try simp only[pq])
           refine zac (by rw[hO];kernel_rfl) ?_
           (try simp only[pq])
           refine zac (by rw[hO];kernel_rfl) ?_
           (try simp only[pq])
           refine zac (by rw[hO];kernel_rfl) ?_
           (try simp only[pq])
           refine zac (by rw[hO];kernel_rfl) ?_
           (try simp only[pq])
           refine zac (by rw[hO];kernel_rfl) ?_
           (try simp only[pq])
           refine zac (by rw[hO];kernel_rfl) ?_
           (try simp only[pq])
           refine zac (by rw[hO];kernel_rfl) ?_
           (try simp only[pq])
           refine zac (by rw[hO];kernel_rfl) ?_
           (try simp only[pq])
           refine zac (by rw[hO];kernel_rfl) ?_
           (try simp only[pq])
           refine zac (by rw[hO];kernel_rfl) ?_
           (try simp only[pq])
           refine zaa (by rw[hO];kernel_rfl) (.bool true) (fun K9 hK9=>by go_simp;exact hK9) ?_
           (try simp only[pq])
           refine zaa (by rw[hO];kernel_rfl) (.bool true) (fun K9 hK9=>by go_simp;exact hK9) ?_
           (try simp only[pq])
           go_wp2_with fail
           go_meet
           case rel=>exact ⟨true,rfl,HNB,g6⟩
          | true =>
           by_cases hmt:m<tm
           ·have HNB:=hide ((uh HBE).better hcm hyT (Or.inl hmt))
            have hmi:(m:Int)<(tm:Int):=by omega
            clear hyT hcm hLB hLY hmt
            refine za3 fun O hO => ?_
            refine zaa (by rw[hO];kernel_rfl) (.bool true) (fun K9 hK9=>by go_simp;exact hK9) ?_
            (try simp only[pq])
            refine zaa (by rw[hO];kernel_rfl) (.bool true) (fun K9 hK9=>by go_simp;exact hK9) ?_
            (try simp only[pq])
            refine zaa (by rw[hO];kernel_rfl) (.slice (some ⟨ob,oo,none⟩) tl oc2) (fun K9 hK9=>by go_simp;exact hK9) ?_
            (try simp only[pq])
            refine zaa (by rw[hO];kernel_rfl) (.slice (some ⟨b,o,none⟩) pn pc) (fun K9 hK9=>by go_simp;exact hK9) ?_
            (try simp only[pq])
            refine zaa (by rw[hO];kernel_rfl) (.int .i64 ((k:Int))) (fun K9 hK9=>by go_simp;exact hK9) ?_
            (try simp only[pq])
            refine zaa (by rw[hO];kernel_rfl) (.pointer (some ⟨b,o+k,none⟩)) (fun K9 hK9=>by go_simp;exact hK9) ?_
            (try simp only[pq])
            refine zaa (by rw[hO];kernel_rfl) (.string TY) (fun K9 hK9=>by go_simp;exact hK9) ?_
            (try simp only[pq])
            refine zbj (by rw[hO];kernel_rfl) fun K9 hK9 => ?_
            go_simp
            go_at_call 51
            refine (uh HH2).mono ?_
            rintro e w6 ⟨rfl,g6⟩
            have hc6:=g6.cell hc5 (by simp)
            refine hK9 _ _ ?_
            clear hK9 K9
            (try simp only[pq])
            refine zaa (by rw[hO];kernel_rfl) (.bool true) (fun K9 hK9=>by go_simp;exact hK9) ?_
            (try simp only[pq])
            refine zaa (by rw[hO];kernel_rfl) (.bool true) (fun K9 hK9=>by go_simp;exact hK9) ?_
            (try simp only[pq])
            refine zaa (by rw[hO];kernel_rfl) (.bool true) (fun K9 hK9=>by go_simp;exact hK9) ?_
            (try simp only[pq])
            refine zaa (by rw[hO];kernel_rfl) (.bool true) (fun K9 hK9=>by go_simp;exact hK9) ?_
            (try simp only[pq])
            refine zaa (by rw[hO];kernel_rfl) (.bool false) (fun K9 hK9=>by go_simp;exact hK9) ?_
            (try simp only[pq])
            refine zaa (by rw[hO];kernel_rfl) (.bool false) (fun K9 hK9=>by go_simp;exact hK9) ?_
            (try simp only[pq])
            refine zaa (by rw[hO];kernel_rfl) (.int .u64 (tm:Int)) (fun K9 hK9=>by go_simp;exact hK9) ?_
            (try simp only[pq])
            refine zaa (by rw[hO];kernel_rfl) (.int .u64 (m:Int)) (fun K9 hK9=>by go_simp;exact hK9) ?_
            (try simp only[pq])
            refine zaa (by rw[hO];kernel_rfl) (.bool true) (fun K9 hK9=>by go_simp;exact hK9) ?_
            (try simp only[pq])
            refine zaa (by rw[hO];kernel_rfl) (.bool true) (fun K9 hK9=>by go_simp;exact hK9) ?_
            (try simp only[pq])
            refine zaa (by rw[hO];kernel_rfl) (.bool true) (fun K9 hK9=>by go_simp;exact hK9) ?_
            (try simp only[pq])
            refine zac (by rw[hO];kernel_rfl) ?_
            (try simp only[pq])
            refine zac (by rw[hO];kernel_rfl) ?_
            (try simp only[pq])
            refine zac (by rw[hO];kernel_rfl) ?_
            (try simp only[pq])
            refine zac (by rw[hO];kernel_rfl) ?_
            (try simp only[pq])
            refine zac (by rw[hO];kernel_rfl) ?_
            (try simp only[pq])
            refine zac (by rw[hO];kernel_rfl) ?_
            (try simp only[pq])
            refine zac (by rw[hO];kernel_rfl) ?_
            (try simp only[pq])
            refine zac (by rw[hO];kernel_rfl) ?_
            (try simp only[pq])
            refine zac (by rw[hO];kernel_rfl) ?_
            (try simp only[pq])
            refine zac (by rw[hO];kernel_rfl) ?_
            (try simp only[pq])
            refine zac (by rw[hO];kernel_rfl) ?_
            (try simp only[pq])
            refine zaa (by rw[hO];kernel_rfl) (.bool true) (fun K9 hK9=>by go_simp;exact hK9) ?_
            (try simp only[pq])
            refine zaa (by rw[hO];kernel_rfl) (.bool true) (fun K9 hK9=>by go_simp;exact hK9) ?_
            (try simp only[pq])
            go_wp2_with fail
            go_meet
            case rel=>exact ⟨true,rfl,HNB,g6⟩
           ·by_cases het:tm=m
            ·subst het
             cases hl:za8 y bb with
             | true =>
              have HNB:=hide ((uh HBE).better hcm hyT (Or.inr ⟨rfl,hl⟩))
              have hl2:Op.bytesLess y bb=true:=hl
              clear hyT hcm hmt hl
              refine za3 fun O hO => ?_
              refine zaa (by rw[hO];kernel_rfl) (.bool true) (fun K9 hK9=>by go_simp;exact hK9) ?_
              (try simp only[pq])
              refine zaa (by rw[hO];kernel_rfl) (.bool true) (fun K9 hK9=>by go_simp;exact hK9) ?_
              (try simp only[pq])
              refine zaa (by rw[hO];kernel_rfl) (.slice (some ⟨ob,oo,none⟩) tl oc2) (fun K9 hK9=>by go_simp;exact hK9) ?_
              (try simp only[pq])
              refine zaa (by rw[hO];kernel_rfl) (.slice (some ⟨b,o,none⟩) pn pc) (fun K9 hK9=>by go_simp;exact hK9) ?_
              (try simp only[pq])
              refine zaa (by rw[hO];kernel_rfl) (.int .i64 ((k:Int))) (fun K9 hK9=>by go_simp;exact hK9) ?_
              (try simp only[pq])
              refine zaa (by rw[hO];kernel_rfl) (.pointer (some ⟨b,o+k,none⟩)) (fun K9 hK9=>by go_simp;exact hK9) ?_
              (try simp only[pq])
              refine zaa (by rw[hO];kernel_rfl) (.string TY) (fun K9 hK9=>by go_simp;exact hK9) ?_
              (try simp only[pq])
              refine zbj (by rw[hO];kernel_rfl) fun K9 hK9 => ?_
              go_simp
              go_at_call 51
              refine (uh HH2).mono ?_
              rintro e w6 ⟨rfl,g6⟩
              have hc6:=g6.cell hc5 (by simp)
              refine hK9 _ _ ?_
              clear hK9 K9
              (try simp only[pq])
              refine zaa (by rw[hO];kernel_rfl) (.bool true) (fun K9 hK9=>by go_simp;exact hK9) ?_
              (try simp only[pq])
              refine zaa (by rw[hO];kernel_rfl) (.bool true) (fun K9 hK9=>by go_simp;exact hK9) ?_
              (try simp only[pq])
              refine zaa (by rw[hO];kernel_rfl) (.bool true) (fun K9 hK9=>by go_simp;exact hK9) ?_
              (try simp only[pq])
              refine zaa (by rw[hO];kernel_rfl) (.bool true) (fun K9 hK9=>by go_simp;exact hK9) ?_
              (try simp only[pq])
              refine zaa (by rw[hO];kernel_rfl) (.bool false) (fun K9 hK9=>by go_simp;exact hK9) ?_
              (try simp only[pq])
              refine zaa (by rw[hO];kernel_rfl) (.bool false) (fun K9 hK9=>by go_simp;exact hK9) ?_
              (try simp only[pq])
              refine zaa (by rw[hO];kernel_rfl) (.int .u64 (tm:Int)) (fun K9 hK9=>by go_simp;exact hK9) ?_
              (try simp only[pq])
              refine zaa (by rw[hO];kernel_rfl) (.int .u64 (tm:Int)) (fun K9 hK9=>by go_simp;exact hK9) ?_
              (try simp only[pq])
              refine zaa (by rw[hO];kernel_rfl) (.bool false) (fun K9 hK9=>by go_simp;exact hK9) ?_
              (try simp only[pq])
              refine zaa (by rw[hO];kernel_rfl) (.bool false) (fun K9 hK9=>by go_simp;exact hK9) ?_
              (try simp only[pq])
              refine zaa (by rw[hO];kernel_rfl) (.bool false) (fun K9 hK9=>by go_simp;exact hK9) ?_
              (try simp only[pq])
              refine zaa (by rw[hO];kernel_rfl) (.int .u64 (tm:Int)) (fun K9 hK9=>by go_simp;exact hK9) ?_
              (try simp only[pq])
              refine zaa (by rw[hO];kernel_rfl) (.int .u64 (tm:Int)) (fun K9 hK9=>by go_simp;exact hK9) ?_
              (try simp only[pq])
              refine zaa (by rw[hO];kernel_rfl) (.bool true) (fun K9 hK9=>by go_simp;exact hK9) ?_
              (try simp only[pq])
              refine zaa (by rw[hO];kernel_rfl) (.bool true) (fun K9 hK9=>by go_simp;exact hK9) ?_
              (try simp only[pq])
              refine zaa (by rw[hO];kernel_rfl) (.slice (some ⟨b,o,none⟩) pn pc) (fun K9 hK9=>by go_simp;exact hK9) ?_
              (try simp only[pq])
              refine zaa (by rw[hO];kernel_rfl) (.int .i64 ((k:Int))) (fun K9 hK9=>by go_simp;exact hK9) ?_
              (try simp only[pq])
              refine zaa (by rw[hO];kernel_rfl) (.pointer (some ⟨b,o+k,none⟩)) (fun K9 hK9=>by go_simp;exact hK9) ?_
              (try simp only[pq])
              refine zaa (by rw[hO];kernel_rfl) (.string TY) (fun K9 hK9=>by go_simp;exact hK9) ?_
              (try simp only[pq])
              refine zaa (by rw[hO];kernel_rfl) (.string BBT) (fun K9 hK9=>by go_simp;exact hK9) ?_
              (try simp only[pq])
              refine zaa (by rw[hO];kernel_rfl) (.bool true) (fun K9 hK9=>by go_simp;exact hK9) ?_
              (try simp only[pq])
              refine zaa (by rw[hO];kernel_rfl) (.bool true) (fun K9 hK9=>by go_simp;exact hK9) ?_
              (try simp only[pq])
              refine zaa (by rw[hO];kernel_rfl) (.bool true) (fun K9 hK9=>by go_simp;exact hK9) ?_
              (try simp only[pq])
              refine zaa (by rw[hO];kernel_rfl) (.bool true) (fun K9 hK9=>by go_simp;exact hK9) ?_
              (try simp only[pq])
              go_wp2_with fail
              go_meet
              case rel=>exact ⟨true,rfl,HNB,g6⟩
             | false =>
              have HNB:=hide ((uh HBE).worse hcm hmt (fun _=>hl))
              have hl2:Op.bytesLess y bb=false:=hl
              clear hyT hcm hmt hl
              refine za3 fun O hO => ?_
              refine zaa (by rw[hO];kernel_rfl) (.bool true) (fun K9 hK9=>by go_simp;exact hK9) ?_
              (try simp only[pq])
              refine zaa (by rw[hO];kernel_rfl) (.bool true) (fun K9 hK9=>by go_simp;exact hK9) ?_
              (try simp only[pq])
              refine zaa (by rw[hO];kernel_rfl) (.slice (some ⟨ob,oo,none⟩) tl oc2) (fun K9 hK9=>by go_simp;exact hK9) ?_
              (try simp only[pq])
              refine zaa (by rw[hO];kernel_rfl) (.slice (some ⟨b,o,none⟩) pn pc) (fun K9 hK9=>by go_simp;exact hK9) ?_
              (try simp only[pq])
              refine zaa (by rw[hO];kernel_rfl) (.int .i64 ((k:Int))) (fun K9 hK9=>by go_simp;exact hK9) ?_
              (try simp only[pq])
              refine zaa (by rw[hO];kernel_rfl) (.pointer (some ⟨b,o+k,none⟩)) (fun K9 hK9=>by go_simp;exact hK9) ?_
              (try simp only[pq])
              refine zaa (by rw[hO];kernel_rfl) (.string TY) (fun K9 hK9=>by go_simp;exact hK9) ?_
              (try simp only[pq])
              refine zbj (by rw[hO];kernel_rfl) fun K9 hK9 => ?_
              go_simp
              go_at_call 51
              refine (uh HH2).mono ?_
              rintro e w6 ⟨rfl,g6⟩
              have hc6:=g6.cell hc5 (by simp)
              refine hK9 _ _ ?_
              clear hK9 K9
              (try simp only[pq])
              refine zaa (by rw[hO];kernel_rfl) (.bool true) (fun K9 hK9=>by go_simp;exact hK9) ?_
              (try simp only[pq])
              refine zaa (by rw[hO];kernel_rfl) (.bool true) (fun K9 hK9=>by go_simp;exact hK9) ?_
              (try simp only[pq])
              refine zaa (by rw[hO];kernel_rfl) (.bool true) (fun K9 hK9=>by go_simp;exact hK9) ?_
              (try simp only[pq])
              refine zaa (by rw[hO];kernel_rfl) (.bool true) (fun K9 hK9=>by go_simp;exact hK9) ?_
              (try simp only[pq])
              refine zaa (by rw[hO];kernel_rfl) (.bool false) (fun K9 hK9=>by go_simp;exact hK9) ?_
              (try simp only[pq])
              refine zaa (by rw[hO];kernel_rfl) (.bool false) (fun K9 hK9=>by go_simp;exact hK9) ?_
              (try simp only[pq])
              refine zaa (by rw[hO];kernel_rfl) (.int .u64 (tm:Int)) (fun K9 hK9=>by go_simp;exact hK9) ?_
              (try simp only[pq])
              refine zaa (by rw[hO];kernel_rfl) (.int .u64 (tm:Int)) (fun K9 hK9=>by go_simp;exact hK9) ?_
              (try simp only[pq])
              refine zaa (by rw[hO];kernel_rfl) (.bool false) (fun K9 hK9=>by go_simp;exact hK9) ?_
              (try simp only[pq])
              refine zaa (by rw[hO];kernel_rfl) (.bool false) (fun K9 hK9=>by go_simp;exact hK9) ?_
              (try simp only[pq])
              refine zaa (by rw[hO];kernel_rfl) (.bool false) (fun K9 hK9=>by go_simp;exact hK9) ?_
              (try simp only[pq])
              refine zaa (by rw[hO];kernel_rfl) (.int .u64 (tm:Int)) (fun K9 hK9=>by go_simp;exact hK9) ?_
              (try simp only[pq])
              refine zaa (by rw[hO];kernel_rfl) (.int .u64 (tm:Int)) (fun K9 hK9=>by go_simp;exact hK9) ?_
              (try simp only[pq])
              refine zaa (by rw[hO];kernel_rfl) (.bool true) (fun K9 hK9=>by go_simp;exact hK9) ?_
              (try simp only[pq])
              refine zaa (by rw[hO];kernel_rfl) (.bool true) (fun K9 hK9=>by go_simp;exact hK9) ?_
              (try simp only[pq])
              refine zaa (by rw[hO];kernel_rfl) (.slice (some ⟨b,o,none⟩) pn pc) (fun K9 hK9=>by go_simp;exact hK9) ?_
              (try simp only[pq])
              refine zaa (by rw[hO];kernel_rfl) (.int .i64 ((k:Int))) (fun K9 hK9=>by go_simp;exact hK9) ?_
              (try simp only[pq])
              refine zaa (by rw[hO];kernel_rfl) (.pointer (some ⟨b,o+k,none⟩)) (fun K9 hK9=>by go_simp;exact hK9) ?_
              (try simp only[pq])
              refine zaa (by rw[hO];kernel_rfl) (.string TY) (fun K9 hK9=>by go_simp;exact hK9) ?_
              (try simp only[pq])
              refine zaa (by rw[hO];kernel_rfl) (.string BBT) (fun K9 hK9=>by go_simp;exact hK9) ?_
              (try simp only[pq])
              refine zaa (by rw[hO];kernel_rfl) (.bool false) (fun K9 hK9=>by go_simp;exact hK9) ?_
              (try simp only[pq])
              refine zaa (by rw[hO];kernel_rfl) (.bool false) (fun K9 hK9=>by go_simp;exact hK9) ?_
              (try simp only[pq])
              refine zaa (by rw[hO];kernel_rfl) (.bool false) (fun K9 hK9=>by go_simp;exact hK9) ?_
              (try simp only[pq])
              refine zaa (by rw[hO];kernel_rfl) (.bool false) (fun K9 hK9=>by go_simp;exact hK9) ?_
              (try simp only[pq])
              go_wp2_with fail
              go_meet
              case rel=>exact ⟨false,rfl,HNB,g6⟩
            ·have HNB:=hide ((uh HBE).worse hcm hmt (fun z=>absurd z het))
             have hmi:¬ (m:Int)<(tm:Int):=by omega
             have hei:¬ (tm:Int)=(m:Int):=by omega
             have hei2:((tm:Int) == (m:Int))=false:=by simpa using hei
             have hei3:decide ((tm:Int)=(m:Int))=false:=by simpa using hei
             have hei4:(tm == m)=false:=by simpa using het
             clear hyT hcm hmt hLB hLY
             refine za3 fun O hO => ?_
             refine zaa (by rw[hO];kernel_rfl) (.bool true) (fun K9 hK9=>by go_simp;exact hK9) ?_
             (try simp only[pq])
             refine zaa (by rw[hO];kernel_rfl) (.bool true) (fun K9 hK9=>by go_simp;exact hK9) ?_
             (try simp only[pq])
             refine zaa (by rw[hO];kernel_rfl) (.slice (some ⟨ob,oo,none⟩) tl oc2) (fun K9 hK9=>by go_simp;exact hK9) ?_
             (try simp only[pq])
             refine zaa (by rw[hO];kernel_rfl) (.slice (some ⟨b,o,none⟩) pn pc) (fun K9 hK9=>by go_simp;exact hK9) ?_
             (try simp only[pq])
             refine zaa (by rw[hO];kernel_rfl) (.int .i64 ((k:Int))) (fun K9 hK9=>by go_simp;exact hK9) ?_
             (try simp only[pq])
             refine zaa (by rw[hO];kernel_rfl) (.pointer (some ⟨b,o+k,none⟩)) (fun K9 hK9=>by go_simp;exact hK9) ?_
             (try simp only[pq])
             refine zaa (by rw[hO];kernel_rfl) (.string TY) (fun K9 hK9=>by go_simp;exact hK9) ?_
             (try simp only[pq])
             refine zbj (by rw[hO];kernel_rfl) fun K9 hK9 => ?_
             go_simp
             go_at_call 51
             refine (uh HH2).mono ?_
             rintro e w6 ⟨rfl,g6⟩
             have hc6:=g6.cell hc5 (by simp)
             refine hK9 _ _ ?_
             clear hK9 K9
             (try simp only[pq])
             refine zaa (by rw[hO];kernel_rfl) (.bool true) (fun K9 hK9=>by go_simp;exact hK9) ?_
             (try simp only[pq])
             refine zaa (by rw[hO];kernel_rfl) (.bool true) (fun K9 hK9=>by go_simp;exact hK9) ?_
             (try simp only[pq])
             refine zaa (by rw[hO];kernel_rfl) (.bool true) (fun K9 hK9=>by go_simp;exact hK9) ?_
             (try simp only[pq])
             refine zaa (by rw[hO];kernel_rfl) (.bool true) (fun K9 hK9=>by go_simp;exact hK9) ?_
             (try simp only[pq])
             refine zaa (by rw[hO];kernel_rfl) (.bool false) (fun K9 hK9=>by go_simp;exact hK9) ?_
             (try simp only[pq])
             refine zaa (by rw[hO];kernel_rfl) (.bool false) (fun K9 hK9=>by go_simp;exact hK9) ?_
             (try simp only[pq])
             refine zaa (by rw[hO];kernel_rfl) (.int .u64 (tm:Int)) (fun K9 hK9=>by go_simp;exact hK9) ?_
             (try simp only[pq])
             refine zaa (by rw[hO];kernel_rfl) (.int .u64 (m:Int)) (fun K9 hK9=>by go_simp;exact hK9) ?_
             (try simp only[pq])
             refine zaa (by rw[hO];kernel_rfl) (.bool false) (fun K9 hK9=>by go_simp;exact hK9) ?_
             (try simp only[pq])
             refine zaa (by rw[hO];kernel_rfl) (.bool false) (fun K9 hK9=>by go_simp;exact hK9) ?_
             (try simp only[pq])
             refine zaa (by rw[hO];kernel_rfl) (.bool false) (fun K9 hK9=>by go_simp;exact hK9) ?_
             (try simp only[pq])
             refine zaa (by rw[hO];kernel_rfl) (.int .u64 (tm:Int)) (fun K9 hK9=>by go_simp;exact hK9) ?_
             (try simp only[pq])
             refine zaa (by rw[hO];kernel_rfl) (.int .u64 (m:Int)) (fun K9 hK9=>by go_simp;exact hK9) ?_
             (try simp only[pq])
             refine zaa (by rw[hO];kernel_rfl) (.bool false) (fun K9 hK9=>by go_simp;exact hK9) ?_
             (try simp only[pq])
             refine zaa (by rw[hO];kernel_rfl) (.bool false) (fun K9 hK9=>by go_simp;exact hK9) ?_
             (try simp only[pq])
             refine zac (by rw[hO];kernel_rfl) ?_
             (try simp only[pq])
             refine zac (by rw[hO];kernel_rfl) ?_
             (try simp only[pq])
             refine zac (by rw[hO];kernel_rfl) ?_
             (try simp only[pq])
             refine zac (by rw[hO];kernel_rfl) ?_
             (try simp only[pq])
             refine zac (by rw[hO];kernel_rfl) ?_
             (try simp only[pq])
             refine zac (by rw[hO];kernel_rfl) ?_
             (try simp only[pq])
             refine zaa (by rw[hO];kernel_rfl) (.bool false) (fun K9 hK9=>by go_simp;exact hK9) ?_
             (try simp only[pq])
             refine zaa (by rw[hO];kernel_rfl) (.bool false) (fun K9 hK9=>by go_simp;exact hK9) ?_
             (try simp only[pq])
             refine zaa (by rw[hO];kernel_rfl) (.bool false) (fun K9 hK9=>by go_simp;exact hK9) ?_
             (try simp only[pq])
             go_wp2_with fail
             go_meet
             case rel=>exact ⟨false,rfl,HNB,g6⟩
       case rest =>
        obtain ⟨r,rfl,HNB,gx⟩:=hcut
        have hc6:=gx.cell hc5 (by simp)
        have HG6:=hide (tn (uh HG5) gx)
        clear hc5 gx hLB hLY
        cases r with
        | true =>
         have HNB2:Hid (Best S T (Gone S T i9 (k+1)) true y tm):=by have:=uh HNB;rw[if_pos rfl,← uh HMO2] at this;exact this
         clear HNB
         go_wp2
         go_roundw
         case rel=>exact ⟨k+1,tm,true,y,by go_num,by omega,by rw[← uh HTY],rfl,rfl,HNB2,uh HG6⟩
         case measure=>simp[intOf];omega
        | false =>
         have HNB2:Hid (Best S T (Gone S T i9 (k+1)) f bb m):=by have:=uh HNB;rw[if_neg (by simp),← uh HMO2] at this;exact this
         clear HNB
         go_wp2
         go_roundw
         case rel=>exact ⟨k+1,m,f,bb,by go_num,by omega,by rw[← uh HBBT],rfl,rfl,HNB2,uh HG6⟩
         case measure=>simp[intOf];omega
      ·have hkn:k=pn:=by omega
       subst hkn
       have HNB:Hid (Best S T (Gone S T (i9+1) 0) f bb m):=by have:=uh HBE;rwa [← HNX] at this
       have HGK:=hide (tn (uh HG4) hgk)
       clear hgk HBE
       obtain ⟨BBT,hBBT⟩:∃ z,z=str bb:=⟨_,rfl⟩
       rw[← hBBT]
       have HBBT2:=hide hBBT
       clear hBBT
       go_wp2
       go_roundw
       case rel=>exact ⟨i9+1,m,f,bb,by go_num,by omega,by rw[← uh HBBT2],rfl,rfl,HNB,uh HGK⟩
       case measure=>simp[intOf];omega
    ·have hin:i9=T.length:=by rw[← uh HTL];omega
     have hbe:=uh HBE
     rw[hin,zwh] at hbe
     have hO9:=(uh HO).kept hgr
     have hG9:=tn (uh HG) hgr
     obtain ⟨HO9,HG9⟩:=zh2 hO9 hG9
     clear HBE hgr hO9 hG9 hin
     cases f with
     | false =>
      have HEN:=hide hbe.end
      clear hbe
      go_wp2
      go_ret
      exact ⟨_,T,rfl,za7 (uh HO9) (uh HG1).size,Or.inr ⟨uh HL,uh HEN⟩,tn (uh HG1) (uh HG9)⟩
     | true =>
      have HLP2:Hid (LogP S tip (T++[bb])):=LogP.more (uh HL) hbe.step
      have hl2:(T++[bb]).length=j+1+1:=by rw[List.length_append,← uh HTL,uh HTJ];rfl
      obtain ⟨BBT,hBBT⟩:∃ z,z=str bb:=⟨_,rfl⟩
      obtain ⟨W7,hW7,hB7,g7⟩:=zag wr 9 (stR bb)
      have hbs:(Instr.buildSlice 25 1 #[(0,.string BBT)]).run Tryz.prog wr = .ok (.slice (some ⟨wr.heap.size,0,none⟩) 1 1) W7:=by rw[hW7,hBBT];exact zjq _ _
      rw[← hBBT]
      have HBSx:=hide hbs
      have HE7:=hide (Rws.one (K:=1) (f:=stR) hB7)
      have HO7:=hide ((uh HO9).kept g7)
      have HG7:=hide (tn (uh HG9) g7)
      clear hbe hBBT hW7 hB7 g7 hbs
      have HL2:=hide hl2
      clear hl2
      go_wp2_with (first
       | (refine zaq rfl 25 _ rfl (.string BBT) _ rfl (uh HBSx) ?_)
       | (refine zbx rfl _ _ rfl W1.heap.size (.slice oa2 tl oc2) T [bb] rfl (uh HO7) _ 1 1 rfl rfl (uh HE7) (by show _+1≤_;rw[← uh HTL];omega) (uh HG7).size ?_;intro v8 w8 h8 g8 _;have HO8:=hide h8;have HG8:=hide (zae (uh HG7) g8 (fun z e=>Or.inl ((World.ownsRow.lt (uh HO7)) z e).1));clear h8 g8))
      go_roundw
      case rel=>exact ⟨j+1,T++[bb],by go_num,uh HL2,HLP2,uh HO8,uh HG8⟩
      case measure=>simp[intOf];omega
end Go.Proofs.YthhnfloohbdaiaaGreatDoor
