/- Lemmas. -/
import Derived.Test.YtegbbkgmiklhcaaGreatDoorOObj
import Derived.Lib.AppendStr
import Derived.OwnWalk
import Derived.Laws.MakeOwn
namespace Go.Proofs.YtegbbkgmiklhcaaGreatDoor
open Go.RowKit
set_option maxRecDepth 100000
theorem zry (w:World):(zeroValue 3).run Tryz.prog w = .ok (.int .i64 0) w:=by kernel_rfl
set_option maxHeartbeats 2000000 in
theorem zrz (w:World) (ao:Option Addr) (c n:Nat) (hn:256<n) (hm:n≤100000) :
  Calls Tryz.prog 8 #[.slice ao n c] w fun e w'=>e = .returned (.tuple #[.slice none 0 0,.int .i64 3])∧w.grownBy w' none:=by
 have hz:(256:Int)<(n:Int):=by omega
 go_enter Tryz.func8,Tryz.ntmps8
 go_wp2
 go_ret2
 exact ⟨rfl,zaa _ _⟩
set_option maxHeartbeats 2000000 in
theorem zr0 (w:World) (ao:Option Addr) (c:Nat) (L:List ObP) (hO:Obsl w ao c L) (hm:L.length≤256) (y:Int) (hy:y=errC (L.map (·.o))) (hy0:y≠0) :
  Calls Tryz.prog 8 #[.slice ao L.length c] w fun e w'=>e = .returned (.tuple #[.slice none 0 0,.int .i64 y])∧w.grownBy w' none:=by
 have hc:=zg7 w ao c L hO (by omega)
 rw[← hy] at hc
 obtain ⟨n,hn⟩:∃ n,n=L.length:=⟨_,rfl⟩
 rw[← hn] at hc hm ⊢
 have hz:¬ (256:Int)<(n:Int):=by omega
 have hq:(y == 0)=false:=by simp[hy0]
 clear hy hn hO
 go_enter Tryz.func8,Tryz.ntmps8
 go_wp2_with (go_at_call 21;refine hc.mono ?_;rintro e w2 ⟨rfl,g2⟩;clear hc)
 go_ret2
 exact ⟨rfl,g2⟩
set_option maxHeartbeats 8000000 in
theorem ztz (w:World) (ao:Option Addr) (c:Nat) (L:List ObP) (hO:Obsl w ao c L) (hm:L.length≤256) (hy:errC (L.map (·.o))=0) (hT:Tabs w) :
  Calls Tryz.prog 8 #[.slice ao L.length c] w fun e w'=>∃ v b y,e = .returned (.tuple #[v,.int .i64 y])∧PutP (L.map (·.o)) b y∧NewB w w' v b∧w.grownBy w' none:=by
 obtain ⟨l,hl⟩:∃ l,l=L.map (·.o):=⟨_,rfl⟩
 have hok:∀ o∈l,OkO o:=by rw[hl];exact zps hy
 have hsm:∀ r∈L,r.d.length≤16384:=fun r hr=>by
  obtain ⟨k,_,_,_,h⟩:=zfw (hok r.o (by rw[hl];exact List.mem_map.2 ⟨r,hr,rfl⟩))
  exact h
 have hll:l.length=L.length:=by rw[hl];simp
 have hc:=zg7 w ao c L hO (by omega)
 rw[hy] at hc
 have hnm:∀ V,w.grownBy V none→_:=fun V g=>zpy V ao c L (hO.kept g) (by omega) hsm (hT.kept0 g)
 have hlen0:lenO l≤6+256*16389:=by
  have:∀ s:List Ob,(∀ o∈s,o.2.length≤16384)→(s.map fun o=>5+o.2.length).sum≤s.length*16389:=by
   intro s
   induction s with
   | nil=>intro _;simp
   | cons o s ih =>
    intro h
    have h1:=h o (by simp)
    have h2:=ih fun q hq=>h q (by simp[hq])
    simp only[List.map_cons,List.sum_cons,List.length_cons]
    omega
  have h1:=this l fun o ho=>by obtain ⟨k,_,_,_,h⟩:=zfw (hok o ho);exact h
  unfold lenO
  have:l.length*16389≤256*16389:=Nat.mul_le_mul_right _ (by omega)
  omega
 have hln:∀ V,w.grownBy V none→_:=fun V g=>zhp V ao c L (hO.kept g) (by omega) (by rw[← hl];omega)
 rw[← hl] at hln
 simp only[← hl] at hnm
 obtain ⟨n,hn⟩:∃ n,n=L.length:=⟨_,rfl⟩
 rw[← hn] at hc hm ⊢
 simp only[← hn] at hnm hln
 obtain ⟨NL,hNL⟩:∃ NL,NL=lenO l:=⟨_,rfl⟩
 simp only[← hNL] at hln
 have hz:¬ (256:Int)<(n:Int):=by omega
 have hwn:IntKind.u64.wrap (n:Int)=(n:Int):=by rw[IntKind.wrap_u64];omega
 obtain ⟨HNM,HLN,HL,HN,HOK,HO⟩:=zh6 hnm hln hl hn hok hO
 have HNL:=hide (And.intro hNL hlen0)
 have HSM:=hide hsm
 clear hnm hln hl hn hok hO hNL hlen0 hT hy hll hsm
 go_enter Tryz.func8,Tryz.ntmps8
 go_upto_region 6 with (go_at_call 21;refine hc.mono ?_;rintro e w1 ⟨rfl,g1⟩;clear hc;have G1:=hide g1;clear g1)
 have cn:=uh HNM w1 (uh G1)
 clear HNM
 go_upto_region 7 with (go_at_call 22;refine cn.mono ?_;rintro e w2 ⟨v2,m,M,K,rfl,q1,q2,q3,q4,q5,q6⟩;clear cn;have HQ:=hide (And.intro q1 (And.intro q2 (And.intro q3 (And.intro q4 (And.intro q5 q6)))));clear q1 q2 q3 q4 q5 q6)
 obtain ⟨q1,q2,q3,q4,q5,q6⟩:=uh HQ
 have hkl:=q5
 have hln2:n=l.length:=by rw[uh HN,uh HL];simp
 rw[hln2] at hkl
 obtain ⟨k1,k2⟩:=hkl.len q4.once
 obtain ⟨A,clk,hA,hE,_,_⟩:=q4.is
 have hAs:A.size=K.length:=by
  have:=congrArg List.length hE
  simpa using this
 obtain ⟨az,has⟩:∃ z,z=A.size:=⟨_,rfl⟩
 obtain ⟨K2,HN2⟩:=zh2 k2 hln2
 obtain ⟨kl,hkl2⟩:∃ z,z=K.length:=⟨_,rfl⟩
 have hlenm:(Builtin.len_ #[60] 3 #[.map (some m)]).run Tryz.prog w2 = .ok (.int .i64 (kl:Int)) w2:=by
  have:=run_len_map (P:=Tryz.prog) w2 60 3 m A clk Tryz.underlying60 hA
  rw[this,hAs,hkl2]
  rfl
 have HKL2:=hide hkl2
 clear q1 q2 q3 q5 q6 k1 k2 hkl hE hAs q4 has hkl2 hA hln2
 by_cases hlt:kl<n
 ·have hz1:(kl:Int)<(n:Int):=by omega
  go_wp2_with fail
  go_ret2
  obtain ⟨q1,q2,q3,q4,q5,q6⟩:=uh HQ
  refine ⟨_,[],14,rfl,⟨?_,fun _=>rfl,fun h=>absurd h (by decide)⟩,NewB.nil _ _,tn (uh G1) q6⟩
  have hnd:¬ (l.map obId).Nodup:=(uh K2).1 (by rw[← uh HN2,← uh HKL2];exact hlt)
  rw[← uh HL,zet,if_neg (by have:=uh HN2;omega),if_neg (by rw[zis (uh HOK)];decide),if_neg hnd]
 ·have hz1:¬ (kl:Int)<(n:Int):=by omega
  have hnd:(l.map obId).Nodup:=by
   cases Classical.em (l.map obId).Nodup with
   | inl h=>exact h
   | inr h=>exact absurd ((uh K2).2 h) (by rw[← uh HN2,← uh HKL2];exact hlt)
  have HND:=hide hnd
  clear hnd
  go_upto_region 9 with fail
  clear hlenm
  obtain ⟨q1,q2,q3,q4,q5,q6⟩:=uh HQ
  have G2:=hide (tn (uh G1) q6)
  have cl:=uh HLN w2 (uh G2)
  obtain ⟨i0,hi,hz0,hzz1,hzz2⟩:=info_parts zd2
  have hnl:NL≤6+256*16389:=by rw[(uh HNL).1];exact (uh HNL).2
  have hMl:M.length=n:=by rw[q1.length_eq];simp;rw[uh HN2]
  have hM32:∀ x∈M,x.length=32:=fun x hx=>by
   obtain ⟨o,_,rfl⟩:=List.mem_map.1 (q1.mem_iff.1 hx)
   exact zc1 o
  obtain ⟨va,vc,hv2,hIds⟩:=Ids.own (ps:=M) (by rw[hMl];exact q3) hM32
  rw[hMl] at hv2
  subst hv2
  have HIDS:=hide hIds
  have HML:=hide (And.intro hMl hM32)
  clear q1 q2 q3 q4 q5 q6 hMl hM32 hIds
  go_wp2_with (first
   | (go_at_call 11;refine cl.mono ?_;rintro e w3 ⟨rfl,g3⟩;clear cl;have G3:=hide g3;clear g3)
   | (at_make;refine wpList_make_own _ rfl _ _ 24 rfl w3.heap.size 5 i0 (.int .u8 0) 1 Tryz.underlying24 hi hz0 hzz1 _ _ _ NL rfl rfl ?c1 ?c2 ?c3 ?c4 ?_))
  case c1=>rfl
  case c2=>rw[hzz2];omega
  case c3=>unfold maxLen;omega
  case c4=>exact Nat.le_refl _
  intro w4 ho4 g4
  obtain ⟨HO4,HG4⟩:=zh2 ho4 g4
  clear ho4 g4
  have hb4:w3.heap.size≤w4.heap.size:=(uh HG4).size
  have cw:∀ V,Calls Tryz.prog 23 #[.slice none 0 0,.int .u64 (n:Int),.int .i64 2] V fun e w'=>∃ v',e = .returned v'∧NewB V w' v' (lb n 2)∧V.grownBy w' none:=fun V=>by
   have:=zs0 V none 0 [] n 2 (Bts.nil V) (by decide)
   exact this
  have hlb:(lb n 2).length=2:=zbb _ _
  have HLB:=hide hlb
  obtain ⟨LB,hLB⟩:∃ LB,LB=lb n 2:=⟨_,rfl⟩
  rw[← hLB] at cw
  have HLB2:=hide hLB
  have hl2:LB.length=2:=by rw[hLB];exact hlb
  have HL2:=hide hl2
  clear hLB hlb hl2
  go_upto_region 11 with (refine Lib.wpList_append_own_string _ rfl _ _ 24 9 rfl w3.heap.size 5 i0 Tryz.underlying24 Tryz.underlying9 hi hz0 hzz1 hzz2 (.slice (some ⟨w3.heap.size,0,none⟩) 0 NL) 0 [] rfl (uh HO4) ⟨#[67,80,75,49]⟩ rfl (by decide) (by decide) hb4 ?_;intro v5 w5 ho5 g5 _;obtain ⟨a5,x5,e5⟩:=zcz ho5;have e5b:v5 = .slice a5 4 x5:=e5;clear e5;subst e5b;have HO5:Hid (w5.ownsRow w3.heap.size 5 1 (.slice a5 4 x5) 4 (([67,80,75,49]:List UInt8).map bv)):=ho5;have HG5:=hide g5;clear ho5 g5;(try simp only[pq]))
  have g35:w3.grownBy w5 none:=zae (uh HG4) (uh HG5) (fun y e=>Or.inl ((uh HO4).lt y e).1)
  have cw5:=cw w5
  have HG35:=hide g35
  clear cw g35
  go_upto_region 12 with (first
   | (go_at_call 23;refine cw5.mono ?_;rintro e w6 ⟨v6,rfl,⟨a6,x6,rfl,hb6,_⟩,g6⟩;clear cw5;have HB6:=hide hb6;have HG6:=hide g6;have hs6:w3.heap.size≤w6.heap.size:=(tn (uh HG35) g6).size;clear hb6 g6)
   | (refine zcl rfl _ _ rfl w3.heap.size (.slice a5 4 x5) 4 _ rfl (zed (uh HO5) (uh HG6)) a6 x6 LB (uh HB6) rfl (by have:=uh HL2;omega) hs6 ?_;intro v7 w7 ho7 g7;obtain ⟨a7,x7,rfl⟩:=zcz ho7;have HO7:=hide ho7;have HG7:=hide g7;clear ho7 g7;(try simp only[pq])))
  have ho7:w7.ownsRow w3.heap.size 5 1 (.slice a7 (4+LB.length) x7) 6 ((zdq n).map bv):=by
   have h:=uh HO7
   have e1:(4:Nat)+LB.length=6:=by have:=uh HL2;omega
   have e2:([67,80,75,49]:List UInt8).map bv++LB.map bv=(zdq n).map bv:=by rw[uh HLB2,← List.map_append];rfl
   rw[e2] at h
   have e3:=h
   rw[show w7.ownsRow w3.heap.size 5 1 (.slice a7 (4+LB.length) x7) 6 ((zdq n).map bv)=w7.ownsRow w3.heap.size 5 1 (.slice a7 (4+LB.length) x7) (4+LB.length) ((zdq n).map bv) by rw[e1]]
   exact h
  have g37:w3.grownBy w7 none:=zae (tn (uh HG35) (uh HG6)) (uh HG7) (fun y e=>by
   have h5:=(zed (uh HO5) (uh HG6)).lt y e
   exact Or.inl h5.1)
  have HST:=hide (And.intro ho7 g37)
  clear ho7 g37 HO7 HG7 HB6 HG6 HO5 HG5 HG35 HO4 HG4
  go_wp2_with fail
  go_loopw [7,41] (fun ov kv wr=>∃ (k bn:Nat) (ba:Option Addr) (bx:Nat) (s:List Ob),kv = .int .i64 k∧ov = .slice ba bn bx∧k≤n∧bn≤6+k*16389∧Hid (wr.ownsRow w3.heap.size 5 1 (.slice ba bn bx) bn ((zdq n++s.flatMap obB).map bv)∧s.map obId=M.take k∧(∀ o∈s,o∈l)∧w3.grownBy wr none)) (fun _ kv _=>n - (intOf kv).toNat)
  case atStart=>exact ⟨0,4+LB.length,a7,x7,[],rfl,rfl,Nat.zero_le _,by have:=uh HL2;omega,⟨by have h:=(uh HST).1;rw[show (6:Nat)=4+LB.length by have:=uh HL2;omega] at h;simpa using h,by simp,by simp,(uh HST).2⟩⟩
  case round =>
   clear HST
   obtain ⟨k,bn,ba,bx,s,rfl,rfl,hkn,hbn,HR⟩:=hrel
   by_cases hk:k<n
   ·have hkz:(k:Int)<(n:Int):=by omega
    obtain ⟨ho,hs1,hs2,hg⟩:=uh HR
    obtain ⟨hMl,hM32⟩:=uh HML
    have hkM:k<M.length:=by omega
    obtain ⟨ib,io,hva,hrow0⟩:=(uh HIDS).at k hkM
    have hrow1:=hrow0 k hkM
    have G3r:=tn (uh G3) hg
    have hrow:=zah hrow1 G3r (by simp)
    obtain ⟨q1,q2,q3,q4,q5,q6⟩:=uh HQ
    obtain ⟨x,hx⟩:∃ x,x=M[k]:=⟨_,rfl⟩
    have hxM:x∈l.map obId:=q1.mem_iff.1 (by rw[hx];exact List.getElem_mem _)
    have hx32:x.length=32:=by rw[hx];exact hM32 _ (List.getElem_mem _)
    rw[uh HN2] at q5
    obtain ⟨j,hj1,hj2,hj3⟩:=q5.get hxM
    rw[← hx] at hrow
    obtain ⟨KB,hKB⟩:∃ KB,KB=x.map bv:=⟨_,rfl⟩
    rw[← hKB] at hrow
    have hKl:KB.length=32:=by rw[hKB,List.length_map,hx32]
    have hK1:∀ u∈KB,u.oneCell'=true:=by rw[hKB];exact za8 _
    have hKo:KB.toArray.all (·.oneCell')=true:=all_oneCell_toArray hK1
    have hiK:(Tryz.prog.info? 47).map (·.size)=some KB.length:=by rw[hKl];exact zbi
    have hiK2:(Tryz.prog.info? 47).map (·.size)=some KB.toArray.size:=by simpa using hiK
    obtain ⟨Z,hZ,hzv⟩:=zep
    have hZK:Z.toList.toArray.size=KB.toArray.size:=by simp[hZ,hKl]
    obtain ⟨W5,hW5,hB5,g5⟩:=zcq wr 47 Z KB
    have hBN:Blk (wr.alloc (.cells Z 47)) wr.heap.size 47 Z.toList:=by simpa using Blk.new wr 47 Z.toList
    have h5:=zau hB5
    have G5:=tn G3r g5
    have hM5:=q4.none G5
    have hlu:(Instr.lookup 60 (.map (some m)) (.agg KB.toArray) false).run Tryz.prog W5 = .ok (.int .i64 (j:Int)) W5:=by
     have:=hM5.look 60 3 Tryz.underlying60 (.int .i64 0) (zry W5) x hx32 false
     rw[hj1] at this
     rw[hKB]
     exact this
    have hjL:j<L.length:=by have h1:=congrArg List.length (uh HL);simp at h1;omega
    have hjn:(j:Int)<(n:Int):=by have:=uh HN;omega
    obtain ⟨b,o,hao,hr0,hb0⟩:=(uh HO).at j hjL
    have GW:=tn (uh G2) G5
    have hr:=zah hr0 GW (by simp)
    have hbt:=hb0.kept GW (fun _ e=>by cases e)
    obtain ⟨r,hre⟩:∃ r,r=L[j]:=⟨_,rfl⟩
    have hdr:r.d.length≤16384:=by rw[hre];exact uh HSM _ (List.getElem_mem hjL)
    have hrl:r.o=l[j]:=by
     have:∀ (l' : List Ob) (h:j<l'.length),l'=L.map (·.o)→l'[j]=(L[j]).o:=fun l' h e=>by subst e;simp
     rw[this l hj2 (uh HL),hre]
    rw[← hre] at hr hbt
    obtain ⟨OC,hOC⟩:∃ C,C=obP r:=⟨_,rfl⟩
    rw[← hOC] at hr
    have hiO:(Tryz.prog.info? 42).map (·.size)=some OC.length:=by rw[hOC];exact zdi
    have cp:=zlz W5 r.k r.ao r.c r.d hbt (by omega)
    rw[show Value.agg #[.int .i64 r.k,.slice r.ao r.d.length r.c] = .agg OC.toArray by rw[hOC];rfl] at cp
    obtain ⟨OB,hOB⟩:∃ OB,OB=obB r.o:=⟨_,rfl⟩
    have hOB2:putL r.k r.d=OB:=by rw[hOB];rfl
    rw[hOB2] at cp
    have hOl:OB.length=5+r.d.length:=by rw[hOB];exact zjo _
    have hs3:(s++[r.o]).map obId=M.take (k+1):=by
     rw[List.take_succ_eq_append_getElem hkM,List.map_append,hs1,← hx,← hj3,← hrl];rfl
    have hs4:∀ q∈s++[r.o],q∈l:=fun q hq=>by
     rcases List.mem_append.1 hq with hq | hq
     ·exact hs2 q hq
     ·rw[List.mem_singleton.1 hq,hrl];exact List.getElem_mem _
    have hs5:(zdq n++(s++[r.o]).flatMap obB).map bv=(zdq n++s.flatMap obB).map bv++OB.map bv:=by
     rw[hOB];simp
    have ho5:=zed ho g5
    have hb5:w3.heap.size≤W5.heap.size:=(tn hg g5).size
    have hbl:bn+OB.length≤140737488355328:=by omega
    have hbl2:bn+OB.length≤6+(k+1)*16389:=by omega
    have hwi:IntKind.i64.wrap ((k:Int)+1)=(k:Int)+1:=by rw[IntKind.wrap_i64];omega
    have HS:=hide (And.intro hs3 (And.intro hs4 hs5))
    obtain ⟨HIK,HIK2,HZK,HKO,HBN,HW5⟩:=zh6 hiK hiK2 hZK hKo hBN hW5
    obtain ⟨H5,HROW,HLU,HIO,HH,HO5⟩:=zh6 h5 hrow hlu hiO hr ho5
    have HG5:=hide (tn hg g5)
    clear hs3 hs4 hs5 hiK hiK2 hZK hKo hBN hW5 h5 hrow hlu hiO hr ho5 hOl hOB hOB2 hOC hre hrl hdr hbt hb0 hr0 GW hjL hM5 G5 hB5 g5 hZ hK1 hKl hKB hj3 hj2 hj1 q1 q2 q3 q4 q5 q6 hx32 hxM hx G3r hrow1 hrow0 hkM hMl hM32 ho hs1 hs2 hg
    subst hva hao
    go_wp2_with (first
     | (refine wpList_load_mid rfl 47 _ rfl ib (io+k*32) rfl KB _ (uh HROW) Tryz.underlying47 rfl (uh HIK) ?_;clear HROW)
     | (refine wpList_store_row rfl 47 _ _ rfl wr.heap.size KB.toArray rfl rfl _ _ (uh HBN) (uh HIK2) (uh HZK) (uh HKO) ?_;rw[← uh HW5])
     | (refine wpList_load_mid rfl 47 _ rfl wr.heap.size 0 rfl KB _ (uh H5) Tryz.underlying47 rfl (uh HIK) ?_;clear H5)
     | (rw[uh HLU])
     | (refine wpList_load_mid rfl 42 _ rfl b (o+j*2) rfl OC _ (uh HH) Tryz.underlying42 rfl (uh HIO) ?_;clear HH)
     | (go_at_call 24;refine cp.mono ?_;rintro e w6 ⟨v6,rfl,⟨a6,x6,rfl,hb6,_⟩,g6⟩;clear cp;have HB6:=hide hb6;have HO6:=hide (zed (uh HO5) g6);have HG6:=hide (tn (uh HG5) g6);have hs6:w3.heap.size≤w6.heap.size:=(uh HG6).size;clear hb6 g6)
     | (refine zcl rfl _ _ rfl w3.heap.size (.slice ba bn bx) bn _ rfl (uh HO6) a6 x6 OB (uh HB6) rfl hbl hs6 ?_;intro v7 w7 ho7 g7;obtain ⟨a8,x8,rfl⟩:=zcz ho7;have HO7:=hide ho7;have HG7:=hide (zae (uh HG6) g7 (fun y e=>Or.inl ((uh HO6).lt y e).1));clear ho7 g7;(try simp only[pq])))
    go_roundw
    case rel =>
     refine ⟨k+1,bn+OB.length,a8,x8,s++[r.o],by go_num,rfl,by omega,hbl2,⟨?_,(uh HS).1,(uh HS).2.1,uh HG7⟩⟩
     rw[(uh HS).2.2]
     exact uh HO7
    case measure=>simp[intOf];omega
   ·have hkz:¬ (k:Int)<(n:Int):=by omega
    go_wp2_with fail
    go_ret2
    obtain ⟨ho,hs1,hs2,hg⟩:=uh HR
    obtain ⟨q1,q2,q3,q4,q5,q6⟩:=uh HQ
    obtain ⟨hMl,hM32⟩:=uh HML
    have hkn2:k=M.length:=by omega
    rw[hkn2,List.take_length] at hs1
    obtain ⟨p1,p2⟩:=zrv (by have:=uh HN2;omega) (uh HOK) (uh HND) q1 q2 hs1 hs2
    have hsl:s.length=n:=by rw[p1.length_eq];exact (uh HN2).symm
    have hbe:zdq n++s.flatMap obB=zdz s:=by unfold zdz;rw[hsl]
    rw[hbe] at ho
    have gA:w.grownBy w3 none:=tn (uh G2) (uh G3)
    have hbl:bn=(zdz s).length:=by
     have:=ho.1
     simpa using this.symm
    refine ⟨_,zdz s,0,rfl,?_,?_,tn gA hg⟩
    ·rw[← uh HL]
     refine ⟨?_,fun h=>absurd rfl h,fun _=>⟨s,p1,p2⟩⟩
     rw[zet,if_neg (by have:=uh HN2;omega),if_neg (by rw[zis (uh HOK)];decide),if_pos (uh HND)]
    ·rw[hbl] at ho ⊢
     exact (NewB.own ho).later gA.size
theorem zl6 (w:World) (ao:Option Addr) (c:Nat) (L:List ObP) (hO:Obsl w ao c L) (hm:L.length≤100000) (hT:Tabs w) :
  Calls Tryz.prog 8 #[.slice ao L.length c] w fun e w'=>∃ v b y,e = .returned (.tuple #[v,.int .i64 y])∧PutP (L.map (·.o)) b y∧NewB w w' v b∧w.grownBy w' none:=by
 by_cases h1:256<L.length
 ·refine (zrz w ao c L.length h1 hm).mono ?_
  rintro e w' ⟨rfl,g⟩
  exact ⟨_,[],3,rfl,⟨by rw[zet,if_pos (by simpa using h1)],fun _=>rfl,fun h=>absurd h (by decide)⟩,NewB.nil _ _,g⟩
 ·by_cases h2:errC (L.map (·.o))=0
  ·exact ztz w ao c L hO (by omega) h2 hT
  ·refine (zr0 w ao c L hO (by omega) _ rfl h2).mono ?_
   rintro e w' ⟨rfl,g⟩
   exact ⟨_,[],_,rfl,⟨by rw[zet,if_neg (by simpa using h1),if_pos h2],fun _=>rfl,fun h=>absurd h h2⟩,NewB.nil _ _,g⟩
theorem zt0 (l:List UInt8) (e:Int):(numS l e 2).1<65536:=by
 unfold numS
 have hnb:nb 2=2:=by decide
 have h1:=ziu (l.take 2)
 have h2:256 ^ (l.take 2).length≤256 ^ 2:=Nat.pow_le_pow_right (by omega) (by simp;omega)
 rw[hnb]
 split
 ·split
  ·simp
  ·simp only;omega
 ·simp
theorem zt1 (l:List UInt8) (e:Int):(numS l e 1).1<256:=by
 unfold numS
 have hnb:nb 1=1:=by decide
 have h1:=ziu (l.take 1)
 have h2:256 ^ (l.take 1).length≤256 ^ 1:=Nat.pow_le_pow_right (by omega) (by simp;omega)
 rw[hnb]
 split
 ·split
  ·simp
  ·simp only;omega
 ·simp
theorem znm (l:List UInt8) (e n:Int):(numS l e n).2.1.length≤l.length:=by
 unfold numS
 split
 ·split
  ·simp
  ·simp
 ·simp
theorem zjq (l:List UInt8) (e:Int):(zal l e).2.1.length≤l.length∧(zal l e).1.length≤l.length:=by
 unfold zal
 split
 ·split
  ·simp
  ·split
   ·simp
   ·split
    ·simp
    ·simp;omega
 ·simp
def zuq (w w' : World) (b:List UInt8) (e:Ending):Prop :=
 (∃ v m s K,e = .returned (.tuple #[v,.map (some m),.int .i64 0])∧PackOf b s∧w'.ownsRow w.heap.size 47 32 v s.length ((s.map obId).flatMap (·.map bv))∧MapAt w' m K∧KPl s K∧w.grownBy w' none) ∨
 (e = .returned (.tuple #[.slice none 0 0,.map none,.int .i64 11])∧(∀ t,¬ PackOf b t)∧w.grownBy w' none)
theorem Rd.asBlk {w:World} {rb:Nat} {l:List UInt8} {e:Int} (h:Rd w rb l e):∃ v,Blk w rb 114 [v,.int .i64 e]:=by
 obtain ⟨ao,c,h1,_,_⟩:=h
 exact ⟨_,h1⟩
structure OpM (u w:World) (rb mB:Nat) (v:Value) (i:Nat) (s:List Ob) (li:List UInt8) (e:Int):Prop where
 rd:Rd w rb li e
 own:w.ownsRow u.heap.size 47 32 v i ((s.map obId).flatMap (·.map bv))
 map:∃ K,MapAt w mB K∧KPl s K
 gr:u.grownBy w none
 nr:u.heap.size≤rb
 nm:u.heap.size≤mB
theorem zit {w a:World} {base n k:Nat} {t:TypeId} {v:Value} {xs:List Value} (h:w.ownsRow base t k v n xs) (g:w.grownBy a none):a.ownsRow base t k v n xs :=
 h.kept g (by cases v.ownBlock <;> simp)
theorem OpM.stay {u w a:World} {rb mB i:Nat} {v:Value} {s:List Ob} {li:List UInt8} {e:Int} (h:OpM u w rb mB v i s li e) (g:w.grownBy a none):OpM u a rb mB v i s li e:=by
 obtain ⟨K,h1,h2⟩:=h.map
 exact ⟨h.rd.kept g (Or.inl rfl),zit h.own g,⟨K,h1.none g,h2⟩,tn h.gr g,h.nr,h.nm⟩
theorem OpM.read {u w a:World} {rb mB i:Nat} {v:Value} {s:List Ob} {li l2:List UInt8} {e e2:Int} (h:OpM u w rb mB v i s li e) (hr:Rd a rb l2 e2) (g:w.grownBy a (some rb)):OpM u a rb mB v i s l2 e2:=by
 obtain ⟨K,h1,h2⟩:=h.map
 obtain ⟨x,hB⟩:=h.rd.asBlk
 refine ⟨hr,h.own.kept g (Or.inr fun e=>zaq h.own hB (by decide) e.symm),⟨K,h1.kept g (fun e=>by injection e with e;exact h1.blk hB e),h2⟩,zae h.gr g (fun y e=>Or.inl (by injection e with e;have:=h.nr;omega)),h.nr,h.nm⟩
theorem OpM.name {u w a:World} {rb mB i:Nat} {v:Value} {s:List Ob} {li:List UInt8} {e:Int} (h:OpM u w rb mB v i s li e) (g:w.grownBy a v.ownBlock) :
  Rd a rb li e∧(∃ K,MapAt a mB K∧KPl s K)∧u.grownBy a none:=by
 obtain ⟨K,h1,h2⟩:=h.map
 obtain ⟨x,hB⟩:=h.rd.asBlk
 refine ⟨h.rd.keptTyp g (fun y e=>⟨fun e2 => ?_,zcp h.own e (by decide)⟩),⟨K,h1.kept g (h1.own h.own),h2⟩,zae h.gr g (fun y e=>Or.inl (h.own.lt y e).1)⟩
 subst e2
 exact zaq h.own hB (by decide) e.symm
theorem OpM.place {u w a:World} {rb mB i:Nat} {v:Value} {s2:List Ob} {li:List UInt8} {e:Int} {K K2:List (List UInt8 × Value)} (hr:Rd w rb li e) (ho:w.ownsRow u.heap.size 47 32 v i ((s2.map obId).flatMap (·.map bv)))
  (hm:MapAt w mB K) (hg:u.grownBy w none) (nr:u.heap.size≤rb) (nm:u.heap.size≤mB) (g:w.grownBy a (some mB)) (hm2:MapAt a mB K2) (hk:KPl s2 K2):OpM u a rb mB v i s2 li e:=by
 obtain ⟨x,hB⟩:=hr.asBlk
 refine ⟨hr.keptTyp g (fun y e=>⟨fun e2 => ?_,?_⟩),zo9 ho hm g,⟨K2,hm2,hk⟩,zae hg g (fun y e=>Or.inl (by injection e with e;omega)),nr,nm⟩
 ·injection e with e
  exact hm.blk hB (by omega)
 ·injection e with e
  rw[← e];exact hm.typ
theorem zp3 (x:List UInt8) (hx:x.length=32) (a n:Nat):Tryz.prog.built 49 [(0,.agg (x.map bv).toArray),(1,.int .i64 (a:Int)),(2,.int .i64 (n:Int))]=some (plC x a n).toArray:=by
 obtain ⟨a0,a1,a2,a3,a4,a5,a6,a7,a8,a9,a10,a11,a12,a13,a14,a15,a16,a17,a18,a19,a20,a21,a22,a23,a24,a25,a26,a27,a28,a29,a30,a31,rfl⟩:=zgr x hx
 kernel_rfl
theorem znn (k:Int) (ao:Option Addr) (n c:Nat):Tryz.prog.built 42 [(0,.int .i64 k),(1,.slice ao n c)]=some #[.int .i64 k,.slice ao n c]:=by kernel_rfl
theorem zr1 {P:Program} (W:World) (t e:TypeId) (ht:P.underlying t=some (.slice e)) (hz:∀ w,(Go.sizeOf e).run P w = .ok 1 w) (ao:Option Addr) (n c lo hi:Nat) (h1:lo≤hi) (h2:hi≤c) :
  (Instr.slice t (.slice ao n c) (some (.int .i64 (lo:Int))) (some (.int .i64 (hi:Int))) none).run P W = .ok (.slice (cutA ao c lo) (hi - lo) (c - lo)) W:=by
 have ht' : P.underlying t=some (.slice (P.elem t)):=by simp[Program.elem,ht]
 have he:P.elem t=e:=by simp[Program.elem,ht]
 rw[run_slice_lh W t _ _ _ ht' .i64 .i64 _ _ (by omega) (by omega) (by omega),he,hz]
 simp[Result.andThen,sliced,cutA]
theorem zur {o:Ob} (h:OkO o):rdL (obB o)=(0,o.1,o.2):=by
 have h1:=zkx h []
 rw[List.append_nil] at h1
 unfold rdO at h1
 simp only[Prod.mk.injEq] at h1
 obtain ⟨h2,h3,h4⟩:=h1
 have h5:=congrArg Prod.fst h2
 have h6:=congrArg Prod.snd h2
 simp only at h5 h6
 unfold rdL
 simp only
 rw[h3,h4,h6,h5]
 have:zb5 [] 0=0∧zao o.1 o.2=0:=⟨rfl,h⟩
 rw[if_pos this]
theorem zus (x:List UInt8) (hx:x.length=32) (a n:Nat):(plC x a n)[32]? = some (.int .i64 (a:Int)):=by
 unfold plC
 rw[List.getElem?_append_right (by simp[hx])]
 simp[hx]
theorem zut (x:List UInt8) (hx:x.length=32) (a n:Nat):(plC x a n)[33]? = some (.int .i64 (n:Int)):=by
 unfold plC
 rw[List.getElem?_append_right (by simp[hx])]
 simp[hx]
set_option maxHeartbeats 2000000 in
theorem zno (w:World) (ao:Option Addr) (c:Nat) (b:List UInt8) (hb:Bts w ao c b) (hl:b.length≤100000) (x:List UInt8) (hx:x.length=32) (a n:Nat) (ha:a+n≤b.length) (o:Ob) (hok:OkO o) (hseg:(b.drop a).take n=obB o) :
  Calls Tryz.prog 30 #[.slice ao b.length c,.agg (plC x a n).toArray] w fun e w'=>∃ v,e = .returned (.agg #[.int .i64 o.1,v])∧NewB w w' v o.2∧w.grownBy w' none:=by
 have hfit:=hb.fits
 obtain ⟨PC,hPC⟩:∃ p,p=plC x a n:=⟨_,rfl⟩
 rw[← hPC]
 obtain ⟨W1,hW1,hB1,g1⟩:=zag w 49 PC
 obtain ⟨W2,hW2,hB2,g2⟩:∃ W2,W2=W1.alloc (.cells #[.int .i64 0,.slice none 0 0] 42)∧Blk W2 W1.heap.size 42 [.int .i64 0,.slice none 0 0]∧W1.grownBy W2 none:=zag W1 _ _
 have hs1:W1.heap.size=w.heap.size+1:=by rw[hW1];simp
 rw[hs1] at hB2
 have G2:=tn g1 g2
 have hB12:=hB1.kept g2 (by simp)
 have c32:W2.cell? ⟨w.heap.size,32,none⟩=some (.int .i64 (a:Int)):=by rw[hB12.cell 32,hPC];exact zus x hx a n
 have c33:W2.cell? ⟨w.heap.size,33,none⟩=some (.int .i64 (n:Int)):=by rw[hB12.cell 33,hPC];exact zut x hx a n
 obtain ⟨hi,hhi⟩:∃ z,z=a+n:=⟨_,rfl⟩
 have hsl:=fun W=>zr1 W 24 5 Tryz.underlying24 za2 ao b.length c a hi (by omega) (by omega)
 have eah:(a:Int)+(n:Int)=(hi:Int):=by omega
 have hbs:Bts W2 (cutA ao c a) (c - a) (obB o):=by
  have:=((hb.kept G2 (fun _ e=>by cases e)).drop a (by omega)).take n (by simp;omega)
  rw[hseg] at this
  exact this
 have hol:(obB o).length=n:=by rw[← hseg];simp;omega
 have hbl:=hol
 have cr:=zpm W2 _ _ (obB o) hbs (by omega)
 rw[zur hok] at cr
 rw[hol] at cr
 have hin:hi - a=n:=by omega
 rw[hin] at hsl
 obtain ⟨bn,hbn⟩:∃ z,z=b.length:=⟨_,rfl⟩
 rw[← hbn] at hsl ⊢
 have HS:w.heap.size+2≤W2.heap.size:=by have:=hB2.lt;omega
 have HW:=hide (show W2=(w.alloc (.cells PC.toArray 49)).alloc (.cells #[.int .i64 0,.slice none 0 0] 42) by rw[hW2,hW1])
 obtain ⟨HB2,HG2,HSL⟩:=zh3 hB2 G2 hsl
 have hn9:n≤100000:=by omega
 have ha9:a≤100000:=by omega
 clear hsl hW1 hW2 hB1 hB2 g1 g2 hs1 G2 hB12 hPC hhi hbs hol hbl hbn hin hb hl ha hseg hfit
 go_enter Tryz.func30,Tryz.ntmps30
 have hsl:=uh HSL
 go_wp2_with (rw[← uh HW])
 refine cr.mono ?_
 rintro e w3 ⟨v3,y3,k3,rfl,rfl,rfl,⟨a3,x3,rfl,hb3,ht3⟩,g3⟩
 clear cr
 obtain ⟨W4,hW4,hB4,g4⟩:=zag w3 42 [.int .i64 o.1,.slice a3 o.2.length x3]
 have hBr:=(uh HB2).kept (tn g3 g4) (by simp)
 have hc0:W4.cell? ⟨w3.heap.size,0,none⟩=some (.int .i64 o.1):=by rw[hB4.cell 0];rfl
 have hc1:W4.cell? ⟨w3.heap.size,1,none⟩=some (.slice a3 o.2.length x3):=by rw[hB4.cell 1];rfl
 have HN:=hide (And.intro hb3 ht3)
 have HG4:=hide (tn g3 g4)
 have G34:=g4
 have HW4:=hide (show W4=w3.alloc (.cells #[.int .i64 o.1,.slice a3 o.2.length x3] 42) from hW4)
 clear hb3 ht3 g3 g4 hW4 hB4
 go_wp2_with (first
  | (rw[← uh HW4])
  | (refine wpList_store_row rfl 42 _ _ rfl (w.heap.size+1) #[.int .i64 o.1,.slice a3 o.2.length x3] rfl rfl _ _ hBr za4 rfl (zeq rfl) ?_))
 have hs2:w.heap.size+2≤W2.heap.size:=HS
 have g5:W4.grownBy (W4.setRow (w.heap.size+1) #[.int .i64 o.1,.slice a3 o.2.length x3]) (some (w.heap.size+1)):=zar (zaa _ _) _ (Or.inr rfl)
 obtain ⟨hb3,ht3⟩:=uh HN
 have g4:w3.grownBy W4 none:=G34
 have hb4:=hb3.kept g4 (fun _ e=>by cases e)
 refine bodyPost_ret (results_cell_row rfl _ _ _ _ _ _ _ rfl (hBr.row [.int .i64 o.1,.slice a3 o.2.length x3]) Tryz.underlying42 rfl za4) rfl ?_
 refine ⟨_,rfl,⟨a3,x3,rfl,hb4.kept g5 (fun x e => ?_),fun ad e=>⟨?_,((ht3 ad e).2.kept g4 (by simp)).kept g5 ?_⟩⟩,zar (tn (uh HG2) (uh HG4)) _ (Or.inl (Nat.le_succ _))⟩
 ·cases e
  intro ad e2
  have:=(ht3 ad e2).1
  omega
 ·have:=(ht3 ad e).1
  omega
 ·have:=(ht3 ad e).1
  simp only[ne_eq,Option.some.injEq]
  omega
end Go.Proofs.YtegbbkgmiklhcaaGreatDoor
