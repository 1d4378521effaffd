/- Lemmas. -/
import Derived.Test.YtegbbkgmiklhcaaGreatDoorOEq
import Derived.Lib.AppendStr
import Derived.OwnWalk
import Derived.Laws.MakeOwn
namespace Go.Proofs.YtegbbkgmiklhcaaGreatDoor
open Go.RowKit
set_option maxRecDepth 100000
theorem zoi (w:World):(zeroValue 3).run Tryz.prog w = .ok (.int .i64 0) w:=by kernel_rfl
set_option maxHeartbeats 2000000 in
theorem zoj (w:World) (ao:Option Addr) (c n:Nat) (hn:256<n) (hm:n≤100000) :
  Calls Tryz.prog 8 #[.slice ao n c] w fun e w'=>e = .returned (.tuple #[.slice none 0 0,.int .i64 3])∧w.grownBy w' none:=by
 have hz:(256:Int)<(n:Int):=by omega
 go_enter Tryz.func8,Tryz.ntmps8
 go_wp2
 go_ret2
 exact ⟨rfl,zab _ _⟩
set_option maxHeartbeats 2000000 in
theorem zok (w:World) (ao:Option Addr) (c:Nat) (L:List ObP) (hO:Obsl w ao c L) (hm:L.length≤256) (y:Int) (hy:y=errC (L.map (·.o))) (hy0:y≠0) :
  Calls Tryz.prog 8 #[.slice ao L.length c] w fun e w'=>e = .returned (.tuple #[.slice none 0 0,.int .i64 y])∧w.grownBy w' none:=by
 have hc:=zfx w ao c L hO (by omega)
 rw[← hy] at hc
 obtain ⟨n,hn⟩:∃ n,n=L.length:=⟨_,rfl⟩
 rw[← hn] at hc hm ⊢
 have hz:¬ (256:Int)<(n:Int):=by omega
 have hq:(y == 0)=false:=by simp[hy0]
 clear hy hn hO
 go_enter Tryz.func8,Tryz.ntmps8
 go_wp2_with (go_at_call 21;refine hc.mono ?_;rintro e w2 ⟨rfl,g2⟩;clear hc)
 go_ret2
 exact ⟨rfl,g2⟩
set_option maxHeartbeats 8000000 in
theorem zp4 (w:World) (ao:Option Addr) (c:Nat) (L:List ObP) (hO:Obsl w ao c L) (hm:L.length≤256) (hy:errC (L.map (·.o))=0) (hT:Tabs w) :
  Calls Tryz.prog 8 #[.slice ao L.length c] w fun e w'=>∃ v b y,e = .returned (.tuple #[v,.int .i64 y])∧PutP (L.map (·.o)) b y∧NewB w w' v b∧w.grownBy w' none:=by
 obtain ⟨l,hl⟩:∃ l,l=L.map (·.o):=⟨_,rfl⟩
 have hok:∀ o∈l,OkO o:=by rw[hl];exact zmp hy
 have hsm:∀ r∈L,r.d.length≤16384:=fun r hr=>by
  obtain ⟨k,_,_,_,h⟩:=zdq (hok r.o (by rw[hl];exact List.mem_map.2 ⟨r,hr,rfl⟩))
  exact h
 have hll:l.length=L.length:=by rw[hl];simp
 have hc:=zfx w ao c L hO (by omega)
 rw[hy] at hc
 have hnm:∀ V,w.grownBy V none→_:=fun V g=>zmr V ao c L (hO.kept g) (by omega) hsm (hT.kept0 g)
 have hlen0:lenO l≤6+256*16389:=by
  have:∀ s:List Ob,(∀ o∈s,o.2.length≤16384)→(s.map fun o=>5+o.2.length).sum≤s.length*16389:=by
   intro s
   induction s with
   | nil=>intro _;simp
   | cons o s ih =>
    intro h
    have h1:=h o (by simp)
    have h2:=ih fun q hq=>h q (by simp[hq])
    simp only[List.map_cons,List.sum_cons,List.length_cons]
    omega
  have h1:=this l fun o ho=>by obtain ⟨k,_,_,_,h⟩:=zdq (hok o ho);exact h
  unfold lenO
  have:l.length*16389≤256*16389:=Nat.mul_le_mul_right _ (by omega)
  omega
 have hln:∀ V,w.grownBy V none→_:=fun V g=>zk1 V ao c L (hO.kept g) (by omega) (by rw[← hl];omega)
 rw[← hl] at hln
 simp only[← hl] at hnm
 obtain ⟨n,hn⟩:∃ n,n=L.length:=⟨_,rfl⟩
 rw[← hn] at hc hm ⊢
 simp only[← hn] at hnm hln
 obtain ⟨NL,hNL⟩:∃ NL,NL=lenO l:=⟨_,rfl⟩
 simp only[← hNL] at hln
 have hz:¬ (256:Int)<(n:Int):=by omega
 have hwn:IntKind.u64.wrap (n:Int)=(n:Int):=by rw[IntKind.wrap_u64];omega
 obtain ⟨HNM,HLN,HL,HN,HOK,HO⟩:=zh6 hnm hln hl hn hok hO
 have HNL:=hide (And.intro hNL hlen0)
 have HSM:=hide hsm
 clear hnm hln hl hn hok hO hNL hlen0 hT hy hll hsm
 go_enter Tryz.func8,Tryz.ntmps8
 go_upto_region 6 with (go_at_call 21;refine hc.mono ?_;rintro e w1 ⟨rfl,g1⟩;clear hc;have G1:=hide g1;clear g1)
 have cn:=uh HNM w1 (uh G1)
 clear HNM
 go_upto_region 7 with (go_at_call 22;refine cn.mono ?_;rintro e w2 ⟨v2,m,M,K,rfl,q1,q2,q3,q4,q5,q6⟩;clear cn;have HQ:=hide (And.intro q1 (And.intro q2 (And.intro q3 (And.intro q4 (And.intro q5 q6)))));clear q1 q2 q3 q4 q5 q6)
 obtain ⟨q1,q2,q3,q4,q5,q6⟩:=uh HQ
 have hkl:=q5
 have hln2:n=l.length:=by rw[uh HN,uh HL];simp
 rw[hln2] at hkl
 obtain ⟨k1,k2⟩:=hkl.len q4.once
 obtain ⟨A,clk,hA,hE,_,_⟩:=q4.is
 have hAs:A.size=K.length:=by
  have:=congrArg List.length hE
  simpa using this
 obtain ⟨az,has⟩:∃ z,z=A.size:=⟨_,rfl⟩
 obtain ⟨K2,HN2⟩:=zh2 k2 hln2
 obtain ⟨kl,hkl2⟩:∃ z,z=K.length:=⟨_,rfl⟩
 have hlenm:(Builtin.len_ #[60] 3 #[.map (some m)]).run Tryz.prog w2 = .ok (.int .i64 (kl:Int)) w2:=by
  have:=run_len_map (P:=Tryz.prog) w2 60 3 m A clk Tryz.underlying60 hA
  rw[this,hAs,hkl2]
  rfl
 have HKL2:=hide hkl2
 clear q1 q2 q3 q5 q6 k1 k2 hkl hE hAs q4 has hkl2 hA hln2
 by_cases hlt:kl<n
 ·have hz1:(kl:Int)<(n:Int):=by omega
  go_wp2_with fail
  go_ret2
  obtain ⟨q1,q2,q3,q4,q5,q6⟩:=uh HQ
  refine ⟨_,[],14,rfl,⟨?_,fun _=>rfl,fun h=>absurd h (by decide)⟩,NewB.nil _ _,tn (uh G1) q6⟩
  have hnd:¬ (l.map obId).Nodup:=(uh K2).1 (by rw[← uh HN2,← uh HKL2];exact hlt)
  rw[← uh HL,zeh,if_neg (by have:=uh HN2;omega),if_neg (by rw[zfw (uh HOK)];decide),if_neg hnd]
 ·have hz1:¬ (kl:Int)<(n:Int):=by omega
  have hnd:(l.map obId).Nodup:=by
   cases Classical.em (l.map obId).Nodup with
   | inl h=>exact h
   | inr h=>exact absurd ((uh K2).2 h) (by rw[← uh HN2,← uh HKL2];exact hlt)
  have HND:=hide hnd
  clear hnd
  go_upto_region 9 with fail
  clear hlenm
  obtain ⟨q1,q2,q3,q4,q5,q6⟩:=uh HQ
  have G2:=hide (tn (uh G1) q6)
  have cl:=uh HLN w2 (uh G2)
  obtain ⟨i0,hi,hz0,hzz1,hzz2⟩:=info_parts zcz
  have hnl:NL≤6+256*16389:=by rw[(uh HNL).1];exact (uh HNL).2
  have hMl:M.length=n:=by rw[q1.length_eq];simp;rw[uh HN2]
  have hM32:∀ x∈M,x.length=32:=fun x hx=>by
   obtain ⟨o,_,rfl⟩:=List.mem_map.1 (q1.mem_iff.1 hx)
   exact zbe o
  obtain ⟨va,vc,hv2,hIds⟩:=Ids.own (ps:=M) (by rw[hMl];exact q3) hM32
  rw[hMl] at hv2
  subst hv2
  have HIDS:=hide hIds
  have HML:=hide (And.intro hMl hM32)
  clear q1 q2 q3 q4 q5 q6 hMl hM32 hIds
  go_wp2_with (first
   | (go_at_call 11;refine cl.mono ?_;rintro e w3 ⟨rfl,g3⟩;clear cl;have G3:=hide g3;clear g3)
   | (at_make;refine wpList_make_own _ rfl _ _ 24 rfl w3.heap.size 5 i0 (.int .u8 0) 1 Tryz.underlying24 hi hz0 hzz1 _ _ _ NL rfl rfl ?c1 ?c2 ?c3 ?c4 ?_))
  case c1=>rfl
  case c2=>rw[hzz2];omega
  case c3=>unfold maxLen;omega
  case c4=>exact Nat.le_refl _
  intro w4 ho4 g4
  obtain ⟨HO4,HG4⟩:=zh2 ho4 g4
  clear ho4 g4
  have hb4:w3.heap.size≤w4.heap.size:=(uh HG4).size
  have cw:∀ V,Calls Tryz.prog 23 #[.slice none 0 0,.int .u64 (n:Int),.int .i64 2] V fun e w'=>∃ v',e = .returned v'∧NewB V w' v' (lb n 2)∧V.grownBy w' none:=fun V=>by
   have:=zpd V none 0 [] n 2 (Bts.nil V) (by decide)
   exact this
  have hlb:(lb n 2).length=2:=zbp _ _
  have HLB:=hide hlb
  obtain ⟨LB,hLB⟩:∃ LB,LB=lb n 2:=⟨_,rfl⟩
  rw[← hLB] at cw
  have HLB2:=hide hLB
  have hl2:LB.length=2:=by rw[hLB];exact hlb
  have HL2:=hide hl2
  clear hLB hlb hl2
  go_upto_region 11 with (refine Lib.wpList_append_own_string _ rfl _ _ 24 9 rfl w3.heap.size 5 i0 Tryz.underlying24 Tryz.underlying9 hi hz0 hzz1 hzz2 (.slice (some ⟨w3.heap.size,0,none⟩) 0 NL) 0 [] rfl (uh HO4) ⟨#[67,80,75,49]⟩ rfl (by decide) (by decide) hb4 ?_;intro v5 w5 ho5 g5 _;obtain ⟨a5,x5,e5⟩:=zb3 ho5;have e5b:v5 = .slice a5 4 x5:=e5;clear e5;subst e5b;have HO5:Hid (w5.ownsRow w3.heap.size 5 1 (.slice a5 4 x5) 4 (([67,80,75,49]:List UInt8).map bv)):=ho5;have HG5:=hide g5;clear ho5 g5;(try simp only[pq]))
  have g35:w3.grownBy w5 none:=zac (uh HG4) (uh HG5) (fun y e=>Or.inl ((uh HO4).lt y e).1)
  have cw5:=cw w5
  have HG35:=hide g35
  clear cw g35
  go_upto_region 12 with (first
   | (go_at_call 23;refine cw5.mono ?_;rintro e w6 ⟨v6,rfl,⟨a6,x6,rfl,hb6,_⟩,g6⟩;clear cw5;have HB6:=hide hb6;have HG6:=hide g6;have hs6:w3.heap.size≤w6.heap.size:=(tn (uh HG35) g6).size;clear hb6 g6)
   | (refine zbv rfl _ _ rfl w3.heap.size (.slice a5 4 x5) 4 _ rfl (zdf (uh HO5) (uh HG6)) a6 x6 LB (uh HB6) rfl (by have:=uh HL2;omega) hs6 ?_;intro v7 w7 ho7 g7;obtain ⟨a7,x7,rfl⟩:=zb3 ho7;have HO7:=hide ho7;have HG7:=hide g7;clear ho7 g7;(try simp only[pq])))
  have ho7:w7.ownsRow w3.heap.size 5 1 (.slice a7 (4+LB.length) x7) 6 ((zdh n).map bv):=by
   have h:=uh HO7
   have e1:(4:Nat)+LB.length=6:=by have:=uh HL2;omega
   have e2:([67,80,75,49]:List UInt8).map bv++LB.map bv=(zdh n).map bv:=by rw[uh HLB2,← List.map_append];rfl
   rw[e2] at h
   have e3:=h
   rw[show w7.ownsRow w3.heap.size 5 1 (.slice a7 (4+LB.length) x7) 6 ((zdh n).map bv)=w7.ownsRow w3.heap.size 5 1 (.slice a7 (4+LB.length) x7) (4+LB.length) ((zdh n).map bv) by rw[e1]]
   exact h
  have g37:w3.grownBy w7 none:=zac (tn (uh HG35) (uh HG6)) (uh HG7) (fun y e=>by
   have h5:=(zdf (uh HO5) (uh HG6)).lt y e
   exact Or.inl h5.1)
  have HST:=hide (And.intro ho7 g37)
  clear ho7 g37 HO7 HG7 HB6 HG6 HO5 HG5 HG35 HO4 HG4
  go_wp2_with fail
  go_loopw [7,41] (fun ov kv wr=>∃ (k bn:Nat) (ba:Option Addr) (bx:Nat) (s:List Ob),kv = .int .i64 k∧ov = .slice ba bn bx∧k≤n∧bn≤6+k*16389∧Hid (wr.ownsRow w3.heap.size 5 1 (.slice ba bn bx) bn ((zdh n++s.flatMap obB).map bv)∧s.map obId=M.take k∧(∀ o∈s,o∈l)∧w3.grownBy wr none)) (fun _ kv _=>n - (intOf kv).toNat)
  case atStart=>exact ⟨0,4+LB.length,a7,x7,[],rfl,rfl,Nat.zero_le _,by have:=uh HL2;omega,⟨by have h:=(uh HST).1;rw[show (6:Nat)=4+LB.length by have:=uh HL2;omega] at h;simpa using h,by simp,by simp,(uh HST).2⟩⟩
  case round =>
   clear HST
   obtain ⟨k,bn,ba,bx,s,rfl,rfl,hkn,hbn,HR⟩:=hrel
   by_cases hk:k<n
   ·have hkz:(k:Int)<(n:Int):=by omega
    obtain ⟨ho,hs1,hs2,hg⟩:=uh HR
    obtain ⟨hMl,hM32⟩:=uh HML
    have hkM:k<M.length:=by omega
    obtain ⟨ib,io,hva,hrow0⟩:=(uh HIDS).at k hkM
    have hrow1:=hrow0 k hkM
    have G3r:=tn (uh G3) hg
    have hrow:=zad hrow1 G3r (by simp)
    obtain ⟨q1,q2,q3,q4,q5,q6⟩:=uh HQ
    obtain ⟨x,hx⟩:∃ x,x=M[k]:=⟨_,rfl⟩
    have hxM:x∈l.map obId:=q1.mem_iff.1 (by rw[hx];exact List.getElem_mem _)
    have hx32:x.length=32:=by rw[hx];exact hM32 _ (List.getElem_mem _)
    rw[uh HN2] at q5
    obtain ⟨j,hj1,hj2,hj3⟩:=q5.get hxM
    rw[← hx] at hrow
    obtain ⟨KB,hKB⟩:∃ KB,KB=x.map bv:=⟨_,rfl⟩
    rw[← hKB] at hrow
    have hKl:KB.length=32:=by rw[hKB,List.length_map,hx32]
    have hK1:∀ u∈KB,u.oneCell'=true:=by rw[hKB];exact zaw _
    have hKo:KB.toArray.all (·.oneCell')=true:=all_oneCell_toArray hK1
    have hiK:(Tryz.prog.info? 47).map (·.size)=some KB.length:=by rw[hKl];exact zax
    have hiK2:(Tryz.prog.info? 47).map (·.size)=some KB.toArray.size:=by simpa using hiK
    obtain ⟨Z,hZ,hzv⟩:=zc8
    have hZK:Z.toList.toArray.size=KB.toArray.size:=by simp[hZ,hKl]
    obtain ⟨W5,hW5,hB5,g5⟩:=zbg wr 47 Z KB
    have hBN:Blk (wr.alloc (.cells Z 47)) wr.heap.size 47 Z.toList:=by simpa using Blk.new wr 47 Z.toList
    have h5:=zal hB5
    have G5:=tn G3r g5
    have hM5:=q4.none G5
    have hlu:(Instr.lookup 60 (.map (some m)) (.agg KB.toArray) false).run Tryz.prog W5 = .ok (.int .i64 (j:Int)) W5:=by
     have:=hM5.look 60 3 Tryz.underlying60 (.int .i64 0) (zoi W5) x hx32 false
     rw[hj1] at this
     rw[hKB]
     exact this
    have hjL:j<L.length:=by have h1:=congrArg List.length (uh HL);simp at h1;omega
    have hjn:(j:Int)<(n:Int):=by have:=uh HN;omega
    obtain ⟨b,o,hao,hr0,hb0⟩:=(uh HO).at j hjL
    have GW:=tn (uh G2) G5
    have hr:=zad hr0 GW (by simp)
    have hbt:=hb0.kept GW (fun _ e=>by cases e)
    obtain ⟨r,hre⟩:∃ r,r=L[j]:=⟨_,rfl⟩
    have hdr:r.d.length≤16384:=by rw[hre];exact uh HSM _ (List.getElem_mem hjL)
    have hrl:r.o=l[j]:=by
     have:∀ (l' : List Ob) (h:j<l'.length),l'=L.map (·.o)→l'[j]=(L[j]).o:=fun l' h e=>by subst e;simp
     rw[this l hj2 (uh HL),hre]
    rw[← hre] at hr hbt
    obtain ⟨OC,hOC⟩:∃ C,C=obP r:=⟨_,rfl⟩
    rw[← hOC] at hr
    have hiO:(Tryz.prog.info? 42).map (·.size)=some OC.length:=by rw[hOC];exact zbz
    have cp:=zjo W5 r.k r.ao r.c r.d hbt (by omega)
    rw[show Value.agg #[.int .i64 r.k,.slice r.ao r.d.length r.c] = .agg OC.toArray by rw[hOC];rfl] at cp
    obtain ⟨OB,hOB⟩:∃ OB,OB=obB r.o:=⟨_,rfl⟩
    have hOB2:putL r.k r.d=OB:=by rw[hOB];rfl
    rw[hOB2] at cp
    have hOl:OB.length=5+r.d.length:=by rw[hOB];exact zfn _
    have hs3:(s++[r.o]).map obId=M.take (k+1):=by
     rw[List.take_succ_eq_append_getElem hkM,List.map_append,hs1,← hx,← hj3,← hrl];rfl
    have hs4:∀ q∈s++[r.o],q∈l:=fun q hq=>by
     rcases List.mem_append.1 hq with hq | hq
     ·exact hs2 q hq
     ·rw[List.mem_singleton.1 hq,hrl];exact List.getElem_mem _
    have hs5:(zdh n++(s++[r.o]).flatMap obB).map bv=(zdh n++s.flatMap obB).map bv++OB.map bv:=by
     rw[hOB];simp
    have ho5:=zdf ho g5
    have hb5:w3.heap.size≤W5.heap.size:=(tn hg g5).size
    have hbl:bn+OB.length≤140737488355328:=by omega
    have hbl2:bn+OB.length≤6+(k+1)*16389:=by omega
    have hwi:IntKind.i64.wrap ((k:Int)+1)=(k:Int)+1:=by rw[IntKind.wrap_i64];omega
    have HS:=hide (And.intro hs3 (And.intro hs4 hs5))
    obtain ⟨HIK,HIK2,HZK,HKO,HBN,HW5⟩:=zh6 hiK hiK2 hZK hKo hBN hW5
    obtain ⟨H5,HROW,HLU,HIO,HH,HO5⟩:=zh6 h5 hrow hlu hiO hr ho5
    have HG5:=hide (tn hg g5)
    clear hs3 hs4 hs5 hiK hiK2 hZK hKo hBN hW5 h5 hrow hlu hiO hr ho5 hOl hOB hOB2 hOC hre hrl hdr hbt hb0 hr0 GW hjL hM5 G5 hB5 g5 hZ hK1 hKl hKB hj3 hj2 hj1 q1 q2 q3 q4 q5 q6 hx32 hxM hx G3r hrow1 hrow0 hkM hMl hM32 ho hs1 hs2 hg
    subst hva hao
    go_wp2_with (first
     | (refine wpList_load_mid rfl 47 _ rfl ib (io+k*32) rfl KB _ (uh HROW) Tryz.underlying47 rfl (uh HIK) ?_;clear HROW)
     | (refine wpList_store_row rfl 47 _ _ rfl wr.heap.size KB.toArray rfl rfl _ _ (uh HBN) (uh HIK2) (uh HZK) (uh HKO) ?_;rw[← uh HW5])
     | (refine wpList_load_mid rfl 47 _ rfl wr.heap.size 0 rfl KB _ (uh H5) Tryz.underlying47 rfl (uh HIK) ?_;clear H5)
     | (rw[uh HLU])
     | (refine wpList_load_mid rfl 42 _ rfl b (o+j*2) rfl OC _ (uh HH) Tryz.underlying42 rfl (uh HIO) ?_;clear HH)
     | (go_at_call 24;refine cp.mono ?_;rintro e w6 ⟨v6,rfl,⟨a6,x6,rfl,hb6,_⟩,g6⟩;clear cp;have HB6:=hide hb6;have HO6:=hide (zdf (uh HO5) g6);have HG6:=hide (tn (uh HG5) g6);have hs6:w3.heap.size≤w6.heap.size:=(uh HG6).size;clear hb6 g6)
     | (refine zbv rfl _ _ rfl w3.heap.size (.slice ba bn bx) bn _ rfl (uh HO6) a6 x6 OB (uh HB6) rfl hbl hs6 ?_;intro v7 w7 ho7 g7;obtain ⟨a8,x8,rfl⟩:=zb3 ho7;have HO7:=hide ho7;have HG7:=hide (zac (uh HG6) g7 (fun y e=>Or.inl ((uh HO6).lt y e).1));clear ho7 g7;(try simp only[pq])))
    go_roundw
    case rel =>
     refine ⟨k+1,bn+OB.length,a8,x8,s++[r.o],by go_num,rfl,by omega,hbl2,⟨?_,(uh HS).1,(uh HS).2.1,uh HG7⟩⟩
     rw[(uh HS).2.2]
     exact uh HO7
    case measure=>simp[intOf];omega
   ·have hkz:¬ (k:Int)<(n:Int):=by omega
    go_wp2_with fail
    go_ret2
    obtain ⟨ho,hs1,hs2,hg⟩:=uh HR
    obtain ⟨q1,q2,q3,q4,q5,q6⟩:=uh HQ
    obtain ⟨hMl,hM32⟩:=uh HML
    have hkn2:k=M.length:=by omega
    rw[hkn2,List.take_length] at hs1
    obtain ⟨p1,p2⟩:=zog (by have:=uh HN2;omega) (uh HOK) (uh HND) q1 q2 hs1 hs2
    have hsl:s.length=n:=by rw[p1.length_eq];exact (uh HN2).symm
    have hbe:zdh n++s.flatMap obB=zdp s:=by unfold zdp;rw[hsl]
    rw[hbe] at ho
    have gA:w.grownBy w3 none:=tn (uh G2) (uh G3)
    have hbl:bn=(zdp s).length:=by
     have:=ho.1
     simpa using this.symm
    refine ⟨_,zdp s,0,rfl,?_,?_,tn gA hg⟩
    ·rw[← uh HL]
     refine ⟨?_,fun h=>absurd rfl h,fun _=>⟨s,p1,p2⟩⟩
     rw[zeh,if_neg (by have:=uh HN2;omega),if_neg (by rw[zfw (uh HOK)];decide),if_pos (uh HND)]
    ·rw[hbl] at ho ⊢
     exact (NewB.own ho).later gA.size
theorem ze1 (w:World) (ao:Option Addr) (c:Nat) (L:List ObP) (hO:Obsl w ao c L) (hm:L.length≤100000) (hT:Tabs w) :
  Calls Tryz.prog 8 #[.slice ao L.length c] w fun e w'=>∃ v b y,e = .returned (.tuple #[v,.int .i64 y])∧PutP (L.map (·.o)) b y∧NewB w w' v b∧w.grownBy w' none:=by
 by_cases h1:256<L.length
 ·refine (zoj w ao c L.length h1 hm).mono ?_
  rintro e w' ⟨rfl,g⟩
  exact ⟨_,[],3,rfl,⟨by rw[zeh,if_pos (by simpa using h1)],fun _=>rfl,fun h=>absurd h (by decide)⟩,NewB.nil _ _,g⟩
 ·by_cases h2:errC (L.map (·.o))=0
  ·exact zp4 w ao c L hO (by omega) h2 hT
  ·refine (zok w ao c L hO (by omega) _ rfl h2).mono ?_
   rintro e w' ⟨rfl,g⟩
   exact ⟨_,[],_,rfl,⟨by rw[zeh,if_neg (by simpa using h1),if_pos h2],fun _=>rfl,fun h=>absurd h h2⟩,NewB.nil _ _,g⟩
end Go.Proofs.YtegbbkgmiklhcaaGreatDoor
