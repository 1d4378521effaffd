/- Lemmas. -/
import Derived.Test.YtoilcpdhhlcidaaGreatDoorMOpen
namespace Go.Proofs.YtoilcpdhhlcidaaGreatDoor
open Go.RowKit
set_option maxRecDepth 100000 in
set_option maxHeartbeats 8000000 in
theorem zjl (w:World) (ao:Option Addr) (ac:Nat) (L:List SAc) (hL0:SActs w ao ac L) (hT:Tabs w) :
  Calls Tryz.prog 6 #[.slice ao L.length ac] w fun e w'=>e = .returned (.bool true)∧w.grownBy w' none:=by
 obtain ⟨nl,hnl⟩:∃ n,n=L.length:=⟨_,rfl⟩
 rw[← hnl]
 have hnm:nl≤9223372036854775807:=by have h1:=hL0.row.fits;have h2:=hL0.row.most;unfold maxLen at h2;omega
 have cn:=lnew (zaa w none) 16 (by decide) (by decide)
 rw[show ((16:Nat):Int)=16 from rfl] at cn
 obtain ⟨HT,HL,HNL⟩:=zh3 hT hL0 hnl
 clear hT hL0 hnl
 go_enter Tryz.func6,Tryz.ntmps6
 go_wp2_with (go_at_call 9;fail)
 refine cn.mono ?_
 rintro e w1 ⟨d,F,rfl,hd1,hF,g1⟩
 have co:=zko hd1 (zez 16) ((uh HT).kept0 g1) (by simp)
 rw[show (List.replicate 16 zsec).length / 2=8 by simp] at co
 clear cn hF
 go_wp2_with (go_at_call 10;fail)
 refine co.mono ?_
 rintro e w2 ⟨s,m,F',rfl,hs2,-,-,-,-⟩
 have HST:=hide (And.intro hs2 (AgI.begin 8))
 clear co hs2 hd1 g1
 go_wp2
 go_loopw [7] (fun i wr=>∃ (k:Nat) (rs:RSt) (F:List Nat) (m:Nat) (S:List (List UInt8)) (c g:Nat) (ls:List (List Chg)) (p:Nat),i = .int .i64 k∧k≤20∧k≤nl∧Hid (StM w wr F s d m S c g ls p rs∧AgI rs 8 k)) (fun i _=>nl - (intOf i).toNat)
 case atStart=>exact ⟨0,⟨[],8,2,0⟩,F',m,_,_,_,_,_,rfl,Nat.zero_le _,Nat.zero_le _,HST⟩
 case round =>
  obtain ⟨k,rs,F,m,S,c,g,ls,p,rfl,hk,hkn,HR⟩:=hrel
  clear HST
  by_cases hlt:k<nl
  ·have hki:(k:Int)<(nl:Int):=by omega
   have hkd:decide ((k:Int)<(nl:Int))=true:=decide_eq_true hki
   by_cases h20:k<20
   ·have h20i:(k:Int)<20:=by omega
    have hkw:IntKind.i64.wrap ((k:Int)+1)=(k:Int)+1:=by rw[IntKind.wrap_i64];omega
    have hkl:k<L.length:=by rw[← uh HNL];exact hlt
    obtain ⟨b,o,hao,hrow⟩:=(uh HL).row.at k hkl
    obtain ⟨x,hx⟩:∃ x,x=L[k]:=⟨_,rfl⟩
    rw[← hx] at hrow
    have hxi:CsI w x.ao x.ac x.L:=by rw[hx];exact (uh HL).ats _ (List.getElem_mem hkl)
    obtain ⟨nx,hnx⟩:∃ n,n=x.L.length:=⟨_,rfl⟩
    have q1:w.cell? ⟨b,o+k*2+1,none⟩=some (.slice x.ao nx x.ac):=by have:=hrow 1 _ rfl;rw[hnx];exact this
    have q2:=(uh HR).1.dw.gb.cell q1 (by simp)
    have cs:=zkx wr x.ao x.ac x.L (hxi.kept (uh HR).1.dw.gb)
    rw[← hnx] at cs
    obtain ⟨HXI,HNX,HQ1⟩:=zh3 hxi hnx q1
    clear hrow hx q1 hxi hnx hkl
    subst hao
    go_wp2_with (go_at_call 12;fail)
    refine cs.mono ?_
    rintro e w3 ⟨bb,rfl,g3,hbb⟩
    clear cs q2
    have hs3:=(uh HR).1.nn g3
    have hI:=(uh HR).2
    cases bb with
    | true =>
      have h8:=hbb rfl
      have h9:=zps x.L
      have hx8:x.L.length≤800:=by omega
      have cc:=zg3 hs3 ((uh HT).kept0 hs3.dw.gb) x.ao x.ac x.L ((uh HXI).csg hs3.dw.gb (fun y hy=>(zqi hs3 y hy).1)) (by omega) (by have:=hI.moves;omega) (by have:=hI.V;omega)
      rw[← uh HNX] at cc
      have q3:=hs3.dw.gb.cell (uh HQ1) (by simp)
      have HI:=hide (hI.step (l:=x.L.map ChI.chg) (by rw[List.length_map];exact hx8))
      clear hbb h8 h9 hx8 hs3 hI g3 HXI HNX HQ1 HR
      go_wp2_with (go_at_call 15;fail)
      refine cc.mono ?_
      rintro e w5 ⟨rfl,F5,m5,S5,c5,g5,ls5,p5,hs5,-⟩
      have HR5:=hide (And.intro hs5 (uh HI))
      clear cc q3 hs5 HI
      go_wp2
      go_roundw
      case rel=>exact ⟨k+1,_,F5,m5,S5,c5,g5,ls5,p5,by go_num,by omega,by omega,HR5⟩
      case measure=>simp[intOf];omega
    | false =>
      have HR3:=hide (And.intro hs3 hI.more)
      clear hbb hs3 hI g3 HXI HNX HQ1 HR
      go_wp2
      go_roundw
      case rel=>exact ⟨k+1,rs,F,m,S,c,g,ls,p,by go_num,by omega,by omega,HR3⟩
      case measure=>simp[intOf];omega
   ·have h20i:¬ (k:Int)<20:=by omega
    have hs:=(uh HR).1
    have hI:=(uh HR).2
    have hm20:rs.moves≤20:=by have:=hI.moves;omega
    have hV16:rs.V.length≤16000:=by have:=hI.V;omega
    have hS16:16≤S.length:=by have h1:=hs.hn;have h2:=hI.half;omega
    have cl:=zpj hs.dw (by simp)
    obtain ⟨HS,HM20,HV16,HS16⟩:=zh4 hs hm20 hV16 hS16
    clear hs hI hm20 hV16 hS16 HR
    go_wp2_with (go_at_call 26;fail)
    refine cl.mono ?_
    rintro e w3 ⟨d2,F2,rfl,hd2,hF2,g3⟩
    have hs3:=(uh HS).nn g3
    have cf:=zkq hs3
    obtain ⟨HD2,HF2,HS3⟩:=zh3 hd2 hF2 hs3
    clear cl hd2 hF2 g3 hs3
    go_wp2_with (go_at_call 23;fail)
    refine cf.mono ?_
    rintro e w4 ⟨rfl,F4,hs4,fr4⟩
    have hd4:Dw w w4 F2 d2 ⟨S,[],-1,false⟩:=(uh HD2).fr fr4 (fun x hx=>((uh HS3).dw.lo x hx).1) (fun x hx hf=>by have h1:=(uh HF2) x hx;have h2:=((uh HS).dw.lo x hf).2;omega)
    have co:=zfc hs4 ((uh HT).kept0 hs4.dw.gb) (by have:=uh HS16;omega)
    obtain ⟨HS4,HD4⟩:=zh2 hs4 hd4
    clear cf hs4 fr4 hd4 HD2 HF2 HS3 HS
    go_wp2_with (go_at_call 10;fail)
    refine co.mono ?_
    rintro e w5 ⟨t,mt,rfl,ht5,g5,-⟩
    have hs5:=(uh HS4).nn g5
    have HD5:=hide ((uh HD4).nn g5)
    have co:=zfc hs5 ((uh HT).kept0 hs5.dw.gb) (by have:=uh HS16;omega)
    obtain ⟨HS5,HT5⟩:=zh2 hs5 ht5
    clear hs5 ht5 g5 HS4 HD4
    go_wp2_with (go_at_call 10;fail)
    refine co.mono ?_
    rintro e w6 ⟨v,mv,rfl,hv6,g6,-⟩
    have hs6:=(uh HS5).nn g6
    have ht6:=(uh HT5).nn g6
    obtain ⟨lf,hlf⟩:∃ n,n=rs.half - rs.used:=⟨_,rfl⟩
    have cls:∀ W,w6.grownBy W none→Calls Tryz.prog 17 #[.pointer (some ⟨s,0,none⟩)] W fun x w'=>x = .returned (.int .i64 (lf:Int))∧w6.grownBy w' none:=fun W gW=>(zdh (hs6.nn gW)).mono fun x w' q=>by rw[hlf];exact ⟨q.1,tn gW q.2⟩
    have clt:∀ W,w6.grownBy W none→Calls Tryz.prog 17 #[.pointer (some ⟨t,0,none⟩)] W fun x w'=>x = .returned (.int .i64 (lf:Int))∧w6.grownBy w' none:=fun W gW=>(zdh (ht6.nn gW)).mono fun x w' q=>by rw[hlf];exact ⟨q.1,tn gW q.2⟩
    have clv:∀ W,w6.grownBy W none→Calls Tryz.prog 17 #[.pointer (some ⟨v,0,none⟩)] W fun x w'=>x = .returned (.int .i64 (lf:Int))∧w6.grownBy w' none:=fun W gW=>(zdh (hv6.nn gW)).mono fun x w' q=>by rw[hlf];exact ⟨q.1,tn gW q.2⟩
    have cms:∀ W,w6.grownBy W none→Calls Tryz.prog 18 #[.pointer (some ⟨s,0,none⟩)] W fun x w'=>x = .returned (.int .u64 (rs.moves:Int))∧w'=W:=fun W gW=>zea (hs6.nn gW) (by have:=uh HM20;omega)
    have cmt:∀ W,w6.grownBy W none→Calls Tryz.prog 18 #[.pointer (some ⟨t,0,none⟩)] W fun x w'=>x = .returned (.int .u64 (rs.moves:Int))∧w'=W:=fun W gW=>zea (ht6.nn gW) (by have:=uh HM20;omega)
    obtain ⟨CLS,CLT,CLV,CMS,CMT,HS6⟩:=zh6 cls clt clv cms cmt hs6
    have HV6:=hide hv6
    have HD6:=hide ((uh HD5).nn g6)
    clear co cls clt clv cms cmt hs6 ht6 hv6 g6 hlf HS5 HT5 HD5
    go_upto_region 14 with fail
    refine zam fun O hO => ?_
    refine zac (by rw[hO];kernel_rfl) (.int .i64 0) (fun K9 hK9=>by go_simp;exact hK9) ?_
    (try simp only[pq])
    refine zac (by rw[hO];kernel_rfl) (.bool false) (fun K9 hK9=>by go_simp;exact hK9) ?_
    (try simp only[pq])
    refine zac (by rw[hO];kernel_rfl) (.bool false) (fun K9 hK9=>by go_simp;exact hK9) ?_
    (try simp only[pq])
    refine zac (by rw[hO];kernel_rfl) (.int .i64 0) (fun K9 hK9=>by go_simp;exact hK9) ?_
    (try simp only[pq])
    refine zac (by rw[hO];kernel_rfl) (.bool false) (fun K9 hK9=>by go_simp;exact hK9) ?_
    (try simp only[pq])
    refine zac (by rw[hO];kernel_rfl) (.bool false) (fun K9 hK9=>by go_simp;exact hK9) ?_
    (try simp only[pq])
    refine zac (by rw[hO];kernel_rfl) (.bool false) (fun K9 hK9=>by go_simp;exact hK9) ?_
    (try simp only[pq])
    refine zac (by rw[hO];kernel_rfl) (.pointer (some ⟨t,0,none⟩)) (fun K9 hK9=>by go_simp;exact hK9) ?_
    (try simp only[pq])
    refine zag (by rw[hO];kernel_rfl) fun K9 hK9 => ?_
    go_simp
    go_at_call 17
    refine ((uh CLT) _ (zaa _ _)).mono ?_
    rintro e w7 ⟨rfl,g1⟩
    have G1:=hide g1
    clear g1
    refine hK9 _ _ ?_
    clear hK9 K9
    (try simp only[pq])
    refine zac (by rw[hO];kernel_rfl) (.pointer (some ⟨s,0,none⟩)) (fun K9 hK9=>by go_simp;exact hK9) ?_
    (try simp only[pq])
    refine zag (by rw[hO];kernel_rfl) fun K9 hK9 => ?_
    go_simp
    go_at_call 17
    refine ((uh CLS) _ (uh G1)).mono ?_
    rintro e w7 ⟨rfl,g2⟩
    have G2:=hide g2
    clear g2
    refine hK9 _ _ ?_
    clear hK9 K9
    (try simp only[pq])
    refine zac (by rw[hO];kernel_rfl) (.bool false) (fun K9 hK9=>by go_simp;exact hK9) ?_
    (try simp only[pq])
    refine zac (by rw[hO];kernel_rfl) (.bool false) (fun K9 hK9=>by go_simp;exact hK9) ?_
    (try simp only[pq])
    refine zac (by rw[hO];kernel_rfl) (.bool false) (fun K9 hK9=>by go_simp;exact hK9) ?_
    (try simp only[pq])
    refine zac (by rw[hO];kernel_rfl) (.pointer (some ⟨v,0,none⟩)) (fun K9 hK9=>by go_simp;exact hK9) ?_
    (try simp only[pq])
    refine zag (by rw[hO];kernel_rfl) fun K9 hK9 => ?_
    go_simp
    go_at_call 17
    refine ((uh CLV) _ (uh G2)).mono ?_
    rintro e w7 ⟨rfl,g3⟩
    have G3:=hide g3
    clear g3
    refine hK9 _ _ ?_
    clear hK9 K9
    (try simp only[pq])
    refine zac (by rw[hO];kernel_rfl) (.pointer (some ⟨s,0,none⟩)) (fun K9 hK9=>by go_simp;exact hK9) ?_
    (try simp only[pq])
    refine zag (by rw[hO];kernel_rfl) fun K9 hK9 => ?_
    go_simp
    go_at_call 17
    refine ((uh CLS) _ (uh G3)).mono ?_
    rintro e w7 ⟨rfl,g4⟩
    have G4:=hide g4
    clear g4
    refine hK9 _ _ ?_
    clear hK9 K9
    (try simp only[pq])
    refine zac (by rw[hO];kernel_rfl) (.bool false) (fun K9 hK9=>by go_simp;exact hK9) ?_
    (try simp only[pq])
    refine zac (by rw[hO];kernel_rfl) (.bool false) (fun K9 hK9=>by go_simp;exact hK9) ?_
    (try simp only[pq])
    refine zac (by rw[hO];kernel_rfl) (.bool false) (fun K9 hK9=>by go_simp;exact hK9) ?_
    (try simp only[pq])
    refine zac (by rw[hO];kernel_rfl) (.pointer (some ⟨t,0,none⟩)) (fun K9 hK9=>by go_simp;exact hK9) ?_
    (try simp only[pq])
    refine zag (by rw[hO];kernel_rfl) fun K9 hK9 => ?_
    go_simp
    go_at_call 18
    refine ((uh CMT) _ (uh G4)).mono ?_
    rintro e w8 ⟨rfl,e8⟩
    subst w8
    refine hK9 _ _ ?_
    clear hK9 K9
    (try simp only[pq])
    refine zac (by rw[hO];kernel_rfl) (.pointer (some ⟨s,0,none⟩)) (fun K9 hK9=>by go_simp;exact hK9) ?_
    (try simp only[pq])
    refine zag (by rw[hO];kernel_rfl) fun K9 hK9 => ?_
    go_simp
    go_at_call 18
    refine ((uh CMS) _ (uh G4)).mono ?_
    rintro e w8 ⟨rfl,e8⟩
    subst w8
    refine hK9 _ _ ?_
    clear hK9 K9
    (try simp only[pq])
    refine zac (by rw[hO];kernel_rfl) (.bool false) (fun K9 hK9=>by go_simp;exact hK9) ?_
    (try simp only[pq])
    refine zac (by rw[hO];kernel_rfl) (.bool false) (fun K9 hK9=>by go_simp;exact hK9) ?_
    (try simp only[pq])
    have hs9:=(uh HS6).nn (uh G4)
    have ck:=zfb hs9 [] (by have:=uh HV16;omega)
    obtain ⟨ks,hks⟩:∃ l,l=zce rs.V []:=⟨_,rfl⟩
    obtain ⟨nk,hnk⟩:∃ n,n=ks.length:=⟨_,rfl⟩
    have hk16:nk≤16000:=by have h1:=zf7 rs.V [];have h2:=uh HV16;rw[hnk,hks];omega
    have hhas:∀ k∈ks,(getK rs.V k).isSome=true:=fun k hk=>zi2 (by rw[← hks];exact hk)
    rw[← hks,← hnk,show str []=⟨#[]⟩ from rfl] at ck
    obtain ⟨HHAS,HKS,HNK,HK16⟩:=zh4 hhas hks hnk hk16
    clear hs9 hks hnk hhas CLS CLT CLV CMS CMT
    go_wp2_with (go_at_call 20;fail)
    refine ck.mono ?_
    rintro e w10 ⟨ko,kc,rfl,hcel,g10⟩
    have hv10:=(uh HV6).nn (tn (uh G4) g10)
    have ck2:=zfb hv10 [] (by have:=uh HV16;omega)
    rw[← uh HKS,← uh HNK,show str []=⟨#[]⟩ from rfl] at ck2
    have HC10:=hide hcel
    have HG10:=hide (tn (uh G4) g10)
    clear ck hcel g10 hv10
    go_upto_region 17 with (go_at_call 20;refine ck2.mono ?_;rintro e w11 ⟨mo,mc,rfl,hcel2,g11⟩)
    have hs11:=(uh HS6).nn (tn (uh HG10) g11)
    have hv11:=(uh HV6).nn (tn (uh HG10) g11)
    have hd11:=(uh HD6).nn (tn (uh HG10) g11)
    have HC:=hide ((uh HC10).kept g11)
    obtain ⟨HCM,HS11,HV11,HD11⟩:=zh4 hcel2 hs11 hv11 hd11
    clear ck2 hcel2 g11 hs11 hv11 hd11 HS6 HV6 HD6 HG10 HC10
    go_wp2
    go_loopw [15] (fun i wr=>∃ (j:Nat),i = .int .i64 j∧j≤nk∧Hid (w11.grownBy wr none)) (fun i _=>nk - (intOf i).toNat)
    case atStart=>exact ⟨0,rfl,Nat.zero_le _,hide (zaa _ _)⟩
    case round =>
     obtain ⟨j,rfl,hj,HJ⟩:=hrel
     by_cases hjn:j<nk
     ·have hji:(j:Int)<(nk:Int):=by omega
      have hjw:IntKind.i64.wrap ((j:Int)+1)=(j:Int)+1:=by rw[IntKind.wrap_i64];have:=uh HK16;omega
      have hjl:j<ks.length:=by rw[← uh HNK];exact hjn
      obtain ⟨kj,hkj⟩:∃ k,k=ks[j]:=⟨_,rfl⟩
      obtain ⟨b1,o1,hko,hc1⟩:=(uh HC).at j (by rw[List.length_map];exact hjl)
      obtain ⟨b2,o2,hmo,hc2⟩:=(uh HCM).at j (by rw[List.length_map];exact hjl)
      obtain ⟨TK,hTK⟩:∃ T,T=str kj:=⟨_,rfl⟩
      have hst:(ks.map stv)[j]'(by rw[List.length_map];exact hjl) = .string TK:=by rw[List.getElem_map,hTK,hkj];rfl
      rw[hst] at hc1 hc2
      have c1r:=(uh HJ).cell hc1 (by simp)
      have his:=(uh HHAS) kj (by rw[hkj];exact List.getElem_mem hjl)
      obtain ⟨va,hva⟩:∃ v,v=(getK rs.V kj).getD []:=⟨_,rfl⟩
      obtain ⟨nv,hnv⟩:∃ n,n=va.length:=⟨_,rfl⟩
      have hsr:=(uh HS11).nn (uh HJ)
      have cg:=zhn hsr kj
      rw[his,← hva,← hnv,← hTK] at cg
      obtain ⟨HIS,HVA,HNV,HTK,HC1,HC2⟩:=zh6 his hva hnv hTK hc1 hc2
      clear hst hkj hTK hjl his hva hnv hsr
      subst hko hmo
      go_wp2_with (go_at_call 25;fail)
      refine cg.mono ?_
      rintro e w12 ⟨ga,gc,rfl,hb12,g12⟩
      have g12':=tn (uh HJ) g12
      have c1s:=g12'.cell hc1 (by simp)
      have hvr:=(uh HV11).nn g12'
      have cg2:=zhn hvr kj
      rw[uh HIS,← uh HVA,← uh HNV,← uh HTK] at cg2
      have HB12:=hide hb12
      have HG12:=hide g12'
      clear cg hb12 g12 g12' hvr c1r hc1 hc2
      go_wp2_with (go_at_call 25;fail)
      refine cg2.mono ?_
      rintro e w13 ⟨gb,gd,rfl,hb13,g13⟩
      have HBA:=hide ((uh HB12).kept g13 (fun _ e=>by cases e))
      have HBB:=hide hb13
      have HG13:=hide (tn (uh HG12) g13)
      have HC1:=hide ((uh HG13).cell (uh HC1) (by simp))
      have HC2:=hide ((uh HG13).cell (uh HC2) (by simp))
      clear cg2 hb13 g13 c1s HB12 HG12
      go_upto_region 24 with fail
      refine wp_region_noPanic ?_
      refine wp_region_held_drew (S:=fun V=>w13.grownBy V none) (by kernel_rfl) (zab (zaa w13 none)) (fun _ => ?_)
      refine tq 0 137 (.move (.tmp 13)) ((.slice (some ⟨b1,o1,none⟩) nk kc)) (zab (zaa w13 none)) ?_
      refine tq 1 138 (.move (.tmp 15)) ((.int .i64 (j:Int))) (zab (zaa w13 none)) ?_
      refine tq 2 139 (.indexAddr 30 (.tmp 137) (.tmp 138)) ((.pointer (some ⟨b1,o1+j,none⟩))) (zab (zaa w13 none)) ?_
      refine tz 3 140 (.load 9 (.tmp 139)) ((.string TK)) (zab (zaa w13 none)) ?_ (y:=(Or.inl ⟨by rfl,fun V hV=>by (have hv1:=hV.cell (uh HC1) (by simp);go_simp)⟩))
      (try simp only[pq])
      refine tq 4 141 (.move (.tmp 14)) ((.slice (some ⟨b2,o2,none⟩) nk mc)) (zab (zaa w13 none)) ?_
      refine tq 5 142 (.move (.tmp 15)) ((.int .i64 (j:Int))) (zab (zaa w13 none)) ?_
      refine tq 6 143 (.indexAddr 30 (.tmp 141) (.tmp 142)) ((.pointer (some ⟨b2,o2+j,none⟩))) (zab (zaa w13 none)) ?_
      refine tz 7 144 (.load 9 (.tmp 143)) ((.string TK)) (zab (zaa w13 none)) ?_ (y:=(Or.inl ⟨by rfl,fun V hV=>by (have hv1:=hV.cell (uh HC2) (by simp);go_simp)⟩))
      (try simp only[pq])
      refine tq 8 145 (.binOp .neq 9 (.tmp 140) (.tmp 144) 9) ((.bool false)) (zab (zaa w13 none)) ?_
      refine tq 9 146 (.move (.tmp 145)) ((.bool false)) (zab (zaa w13 none)) ?_
      refine tq 10 147 (.move (.tmp 19)) ((.bool true)) (zab (zaa w13 none)) ?_
      refine tq 11 148 (.unOp .not 4 (.tmp 147)) ((.bool false)) (zab (zaa w13 none)) ?_
      (try simp only[pq])
      refine tq 12 149 (.pick (.tmp 146) (.const (.bool true)) (.tmp 148)) ((.bool false)) (zab (zaa w13 none)) ?_
      refine tq 13 150 (.move (.tmp 149)) ((.bool false)) (zab (zaa w13 none)) ?_
      refine tq 14 151 (.move (.tmp 16)) ((.slice ga nv gc)) (zab (zaa w13 none)) ?_
      refine tz 15 152 (.convert 53 9 (.tmp 151)) ((.string (str va))) (zab (zaa w13 none)) ?_ (y:=(Or.inl ⟨by rfl,fun V hV=>by (have hv1:=zb1 ((uh HBA).kept hV (fun _ e=>by cases e)) (uh HNV);go_simp)⟩))
      (try simp only[pq])
      refine tq 16 153 (.move (.tmp 18)) ((.slice gb nv gd)) (zab (zaa w13 none)) ?_
      refine tz 17 154 (.convert 53 9 (.tmp 153)) ((.string (str va))) (zab (zaa w13 none)) ?_ (y:=(Or.inl ⟨by rfl,fun V hV=>by (have hv1:=zb1 ((uh HBB).kept hV (fun _ e=>by cases e)) (uh HNV);go_simp)⟩))
      refine tq 18 155 (.binOp .neq 9 (.tmp 152) (.tmp 154) 9) ((.bool false)) (zab (zaa w13 none)) ?_
      refine tq 19 156 (.pick (.tmp 150) (.const (.bool true)) (.tmp 155)) ((.bool false)) (zab (zaa w13 none)) ?_
      (try simp only[pq])
      refine wpAnyH_done (by kernel_rfl) ?_ _
      refine NoPanic.normal ?_
      go_wp2
      go_roundw
      case rel=>exact ⟨j+1,by go_num,by omega,hide (zab (uh HG13))⟩
      case measure=>simp[intOf];omega
     ·have hji:¬ (j:Int)<(nk:Int):=by omega
      have hd12:=(uh HD11).nn (uh HJ)
      have hs12:=(uh HS11).nn (uh HJ)
      obtain ⟨HD12,HS12⟩:=zh2 hd12 hs12
      clear hd12 hs12 HD11 HS11 HV11 HC HCM HJ
      go_wp2
      go_loopw [20] (fun i wr2=>∃ (q:Nat),i = .int .i64 q∧q≤16∧Hid (wr.grownBy wr2 none)) (fun i _=>16 - (intOf i).toNat)
      case atStart=>exact ⟨0,rfl,Nat.zero_le _,hide (zaa _ _)⟩
      case round =>
       obtain ⟨q,rfl,hq,HQ⟩:=hrel
       by_cases hqn:q<16
       ·have hqi:(q:Int)<16:=by omega
        have hqw:IntKind.i64.wrap ((q:Int)+1)=(q:Int)+1:=by rw[IntKind.wrap_i64];omega
        have cr:=zfa ((uh HD12).nn (uh HQ)) rfl (q:Int) q rfl (show q<S.length by have:=uh HS16;omega) (by simp)
        obtain ⟨lb,hlb⟩:∃ l,l=zec ⟨S,[],-1,false⟩ q:=⟨_,rfl⟩
        have hll:256=lb.length:=by rw[hlb];exact (zct (uh HD12).at_.ok (show q<S.length by have:=uh HS16;omega)).symm
        rw[← hlb] at cr
        obtain ⟨HLB,HLL⟩:=zh2 hlb hll
        clear hlb hll
        go_wp2_with (go_at_call 27;fail)
        refine cr.mono ?_
        rintro e w15 ⟨ra,rc,rfl,hb15,-,g15⟩
        have g15':=tn (uh HQ) g15
        have cr2:=zfa ((uh HS12).dw.nn g15') rfl (q:Int) q rfl (show q<S.length by have:=uh HS16;omega) (by simp)
        rw[← uh HLB] at cr2
        have HB15:=hide hb15
        have HG15:=hide g15'
        clear cr hb15 g15 g15'
        go_wp2_with (go_at_call 27;fail)
        refine cr2.mono ?_
        rintro e w16 ⟨rb,rd,rfl,hb16,-,g16⟩
        have hcx:=zb1 ((uh HB15).kept g16 (fun _ e=>by cases e)) (uh HLL)
        have hcy:=zb1 hb16 (uh HLL)
        have HG16:=hide (tn (uh HG15) g16)
        clear cr2 hb16 g16 HB15 HG15
        go_wp2
        go_roundw
        case rel=>exact ⟨q+1,by go_num,by omega,HG16⟩
        case measure=>simp[intOf];omega
       ·have hqi:¬ (q:Int)<16:=by omega
        have hgb:=tn (uh HS12).dw.gb (uh HQ)
        have c1:=zny _ ((uh HT).kept0 hgb)
        have HGB:=hide hgb
        clear hgb
        go_wp2_with (go_at_call 21;fail)
        refine c1.mono ?_
        rintro e w17 ⟨rfl,g17⟩
        have HGF:=hide (tn (uh HGB) g17)
        clear c1 g17
        go_wp2
        go_ret
        exact ⟨rfl,uh HGF⟩
  ·have hki:¬ (k:Int)<(nl:Int):=by omega
   have hkd:decide ((k:Int)<(nl:Int))=false:=decide_eq_false hki
   have hs:=(uh HR).1
   have hI:=(uh HR).2
   have hm20:rs.moves≤20:=by have:=hI.moves;omega
   have hV16:rs.V.length≤16000:=by have:=hI.V;omega
   have hS16:16≤S.length:=by have h1:=hs.hn;have h2:=hI.half;omega
   have cl:=zpj hs.dw (by simp)
   obtain ⟨HS,HM20,HV16,HS16⟩:=zh4 hs hm20 hV16 hS16
   clear hs hI hm20 hV16 hS16 HR
   go_wp2_with (go_at_call 26;fail)
   refine cl.mono ?_
   rintro e w3 ⟨d2,F2,rfl,hd2,hF2,g3⟩
   have hs3:=(uh HS).nn g3
   have cf:=zkq hs3
   obtain ⟨HD2,HF2,HS3⟩:=zh3 hd2 hF2 hs3
   clear cl hd2 hF2 g3 hs3
   go_wp2_with (go_at_call 23;fail)
   refine cf.mono ?_
   rintro e w4 ⟨rfl,F4,hs4,fr4⟩
   have hd4:Dw w w4 F2 d2 ⟨S,[],-1,false⟩:=(uh HD2).fr fr4 (fun x hx=>((uh HS3).dw.lo x hx).1) (fun x hx hf=>by have h1:=(uh HF2) x hx;have h2:=((uh HS).dw.lo x hf).2;omega)
   have co:=zfc hs4 ((uh HT).kept0 hs4.dw.gb) (by have:=uh HS16;omega)
   obtain ⟨HS4,HD4⟩:=zh2 hs4 hd4
   clear cf hs4 fr4 hd4 HD2 HF2 HS3 HS
   go_wp2_with (go_at_call 10;fail)
   refine co.mono ?_
   rintro e w5 ⟨t,mt,rfl,ht5,g5,-⟩
   have hs5:=(uh HS4).nn g5
   have HD5:=hide ((uh HD4).nn g5)
   have co:=zfc hs5 ((uh HT).kept0 hs5.dw.gb) (by have:=uh HS16;omega)
   obtain ⟨HS5,HT5⟩:=zh2 hs5 ht5
   clear hs5 ht5 g5 HS4 HD4
   go_wp2_with (go_at_call 10;fail)
   refine co.mono ?_
   rintro e w6 ⟨v,mv,rfl,hv6,g6,-⟩
   have hs6:=(uh HS5).nn g6
   have ht6:=(uh HT5).nn g6
   obtain ⟨lf,hlf⟩:∃ n,n=rs.half - rs.used:=⟨_,rfl⟩
   have cls:∀ W,w6.grownBy W none→Calls Tryz.prog 17 #[.pointer (some ⟨s,0,none⟩)] W fun x w'=>x = .returned (.int .i64 (lf:Int))∧w6.grownBy w' none:=fun W gW=>(zdh (hs6.nn gW)).mono fun x w' q=>by rw[hlf];exact ⟨q.1,tn gW q.2⟩
   have clt:∀ W,w6.grownBy W none→Calls Tryz.prog 17 #[.pointer (some ⟨t,0,none⟩)] W fun x w'=>x = .returned (.int .i64 (lf:Int))∧w6.grownBy w' none:=fun W gW=>(zdh (ht6.nn gW)).mono fun x w' q=>by rw[hlf];exact ⟨q.1,tn gW q.2⟩
   have clv:∀ W,w6.grownBy W none→Calls Tryz.prog 17 #[.pointer (some ⟨v,0,none⟩)] W fun x w'=>x = .returned (.int .i64 (lf:Int))∧w6.grownBy w' none:=fun W gW=>(zdh (hv6.nn gW)).mono fun x w' q=>by rw[hlf];exact ⟨q.1,tn gW q.2⟩
   have cms:∀ W,w6.grownBy W none→Calls Tryz.prog 18 #[.pointer (some ⟨s,0,none⟩)] W fun x w'=>x = .returned (.int .u64 (rs.moves:Int))∧w'=W:=fun W gW=>zea (hs6.nn gW) (by have:=uh HM20;omega)
   have cmt:∀ W,w6.grownBy W none→Calls Tryz.prog 18 #[.pointer (some ⟨t,0,none⟩)] W fun x w'=>x = .returned (.int .u64 (rs.moves:Int))∧w'=W:=fun W gW=>zea (ht6.nn gW) (by have:=uh HM20;omega)
   obtain ⟨CLS,CLT,CLV,CMS,CMT,HS6⟩:=zh6 cls clt clv cms cmt hs6
   have HV6:=hide hv6
   have HD6:=hide ((uh HD5).nn g6)
   clear co cls clt clv cms cmt hs6 ht6 hv6 g6 hlf HS5 HT5 HD5
   go_upto_region 14 with fail
   refine zam fun O hO => ?_
   refine zac (by rw[hO];kernel_rfl) (.int .i64 0) (fun K9 hK9=>by go_simp;exact hK9) ?_
   (try simp only[pq])
   refine zac (by rw[hO];kernel_rfl) (.bool false) (fun K9 hK9=>by go_simp;exact hK9) ?_
   (try simp only[pq])
   refine zac (by rw[hO];kernel_rfl) (.bool false) (fun K9 hK9=>by go_simp;exact hK9) ?_
   (try simp only[pq])
   refine zac (by rw[hO];kernel_rfl) (.int .i64 0) (fun K9 hK9=>by go_simp;exact hK9) ?_
   (try simp only[pq])
   refine zac (by rw[hO];kernel_rfl) (.bool false) (fun K9 hK9=>by go_simp;exact hK9) ?_
   (try simp only[pq])
   refine zac (by rw[hO];kernel_rfl) (.bool false) (fun K9 hK9=>by go_simp;exact hK9) ?_
   (try simp only[pq])
   refine zac (by rw[hO];kernel_rfl) (.bool false) (fun K9 hK9=>by go_simp;exact hK9) ?_
   (try simp only[pq])
   refine zac (by rw[hO];kernel_rfl) (.pointer (some ⟨t,0,none⟩)) (fun K9 hK9=>by go_simp;exact hK9) ?_
   (try simp only[pq])
   refine zag (by rw[hO];kernel_rfl) fun K9 hK9 => ?_
   go_simp
   go_at_call 17
   refine ((uh CLT) _ (zaa _ _)).mono ?_
   rintro e w7 ⟨rfl,g1⟩
   have G1:=hide g1
   clear g1
   refine hK9 _ _ ?_
   clear hK9 K9
   (try simp only[pq])
   refine zac (by rw[hO];kernel_rfl) (.pointer (some ⟨s,0,none⟩)) (fun K9 hK9=>by go_simp;exact hK9) ?_
   (try simp only[pq])
   refine zag (by rw[hO];kernel_rfl) fun K9 hK9 => ?_
   go_simp
   go_at_call 17
   refine ((uh CLS) _ (uh G1)).mono ?_
   rintro e w7 ⟨rfl,g2⟩
   have G2:=hide g2
   clear g2
   refine hK9 _ _ ?_
   clear hK9 K9
   (try simp only[pq])
   refine zac (by rw[hO];kernel_rfl) (.bool false) (fun K9 hK9=>by go_simp;exact hK9) ?_
   (try simp only[pq])
   refine zac (by rw[hO];kernel_rfl) (.bool false) (fun K9 hK9=>by go_simp;exact hK9) ?_
   (try simp only[pq])
   refine zac (by rw[hO];kernel_rfl) (.bool false) (fun K9 hK9=>by go_simp;exact hK9) ?_
   (try simp only[pq])
   refine zac (by rw[hO];kernel_rfl) (.pointer (some ⟨v,0,none⟩)) (fun K9 hK9=>by go_simp;exact hK9) ?_
   (try simp only[pq])
   refine zag (by rw[hO];kernel_rfl) fun K9 hK9 => ?_
   go_simp
   go_at_call 17
   refine ((uh CLV) _ (uh G2)).mono ?_
   rintro e w7 ⟨rfl,g3⟩
   have G3:=hide g3
   clear g3
   refine hK9 _ _ ?_
   clear hK9 K9
   (try simp only[pq])
   refine zac (by rw[hO];kernel_rfl) (.pointer (some ⟨s,0,none⟩)) (fun K9 hK9=>by go_simp;exact hK9) ?_
   (try simp only[pq])
   refine zag (by rw[hO];kernel_rfl) fun K9 hK9 => ?_
   go_simp
   go_at_call 17
   refine ((uh CLS) _ (uh G3)).mono ?_
   rintro e w7 ⟨rfl,g4⟩
   have G4:=hide g4
   clear g4
   refine hK9 _ _ ?_
   clear hK9 K9
   (try simp only[pq])
   refine zac (by rw[hO];kernel_rfl) (.bool false) (fun K9 hK9=>by go_simp;exact hK9) ?_
   (try simp only[pq])
   refine zac (by rw[hO];kernel_rfl) (.bool false) (fun K9 hK9=>by go_simp;exact hK9) ?_
   (try simp only[pq])
   refine zac (by rw[hO];kernel_rfl) (.bool false) (fun K9 hK9=>by go_simp;exact hK9) ?_
   (try simp only[pq])
   refine zac (by rw[hO];kernel_rfl) (.pointer (some ⟨t,0,none⟩)) (fun K9 hK9=>by go_simp;exact hK9) ?_
   (try simp only[pq])
   refine zag (by rw[hO];kernel_rfl) fun K9 hK9 => ?_
   go_simp
   go_at_call 18
   refine ((uh CMT) _ (uh G4)).mono ?_
   rintro e w8 ⟨rfl,e8⟩
   subst w8
   refine hK9 _ _ ?_
   clear hK9 K9
   (try simp only[pq])
   refine zac (by rw[hO];kernel_rfl) (.pointer (some ⟨s,0,none⟩)) (fun K9 hK9=>by go_simp;exact hK9) ?_
   (try simp only[pq])
   refine zag (by rw[hO];kernel_rfl) fun K9 hK9 => ?_
   go_simp
   go_at_call 18
   refine ((uh CMS) _ (uh G4)).mono ?_
   rintro e w8 ⟨rfl,e8⟩
   subst w8
   refine hK9 _ _ ?_
   clear hK9 K9
   (try simp only[pq])
   refine zac (by rw[hO];kernel_rfl) (.bool false) (fun K9 hK9=>by go_simp;exact hK9) ?_
   (try simp only[pq])
   refine zac (by rw[hO];kernel_rfl) (.bool false) (fun K9 hK9=>by go_simp;exact hK9) ?_
   (try simp only[pq])
   have hs9:=(uh HS6).nn (uh G4)
   have ck:=zfb hs9 [] (by have:=uh HV16;omega)
   obtain ⟨ks,hks⟩:∃ l,l=zce rs.V []:=⟨_,rfl⟩
   obtain ⟨nk,hnk⟩:∃ n,n=ks.length:=⟨_,rfl⟩
   have hk16:nk≤16000:=by have h1:=zf7 rs.V [];have h2:=uh HV16;rw[hnk,hks];omega
   have hhas:∀ k∈ks,(getK rs.V k).isSome=true:=fun k hk=>zi2 (by rw[← hks];exact hk)
   rw[← hks,← hnk,show str []=⟨#[]⟩ from rfl] at ck
   obtain ⟨HHAS,HKS,HNK,HK16⟩:=zh4 hhas hks hnk hk16
   clear hs9 hks hnk hhas CLS CLT CLV CMS CMT
   go_wp2_with (go_at_call 20;fail)
   refine ck.mono ?_
   rintro e w10 ⟨ko,kc,rfl,hcel,g10⟩
   have hv10:=(uh HV6).nn (tn (uh G4) g10)
   have ck2:=zfb hv10 [] (by have:=uh HV16;omega)
   rw[← uh HKS,← uh HNK,show str []=⟨#[]⟩ from rfl] at ck2
   have HC10:=hide hcel
   have HG10:=hide (tn (uh G4) g10)
   clear ck hcel g10 hv10
   go_upto_region 17 with (go_at_call 20;refine ck2.mono ?_;rintro e w11 ⟨mo,mc,rfl,hcel2,g11⟩)
   have hs11:=(uh HS6).nn (tn (uh HG10) g11)
   have hv11:=(uh HV6).nn (tn (uh HG10) g11)
   have hd11:=(uh HD6).nn (tn (uh HG10) g11)
   have HC:=hide ((uh HC10).kept g11)
   obtain ⟨HCM,HS11,HV11,HD11⟩:=zh4 hcel2 hs11 hv11 hd11
   clear ck2 hcel2 g11 hs11 hv11 hd11 HS6 HV6 HD6 HG10 HC10
   go_wp2
   go_loopw [15] (fun i wr=>∃ (j:Nat),i = .int .i64 j∧j≤nk∧Hid (w11.grownBy wr none)) (fun i _=>nk - (intOf i).toNat)
   case atStart=>exact ⟨0,rfl,Nat.zero_le _,hide (zaa _ _)⟩
   case round =>
    obtain ⟨j,rfl,hj,HJ⟩:=hrel
    by_cases hjn:j<nk
    ·have hji:(j:Int)<(nk:Int):=by omega
     have hjw:IntKind.i64.wrap ((j:Int)+1)=(j:Int)+1:=by rw[IntKind.wrap_i64];have:=uh HK16;omega
     have hjl:j<ks.length:=by rw[← uh HNK];exact hjn
     obtain ⟨kj,hkj⟩:∃ k,k=ks[j]:=⟨_,rfl⟩
     obtain ⟨b1,o1,hko,hc1⟩:=(uh HC).at j (by rw[List.length_map];exact hjl)
     obtain ⟨b2,o2,hmo,hc2⟩:=(uh HCM).at j (by rw[List.length_map];exact hjl)
     obtain ⟨TK,hTK⟩:∃ T,T=str kj:=⟨_,rfl⟩
     have hst:(ks.map stv)[j]'(by rw[List.length_map];exact hjl) = .string TK:=by rw[List.getElem_map,hTK,hkj];rfl
     rw[hst] at hc1 hc2
     have c1r:=(uh HJ).cell hc1 (by simp)
     have his:=(uh HHAS) kj (by rw[hkj];exact List.getElem_mem hjl)
     obtain ⟨va,hva⟩:∃ v,v=(getK rs.V kj).getD []:=⟨_,rfl⟩
     obtain ⟨nv,hnv⟩:∃ n,n=va.length:=⟨_,rfl⟩
     have hsr:=(uh HS11).nn (uh HJ)
     have cg:=zhn hsr kj
     rw[his,← hva,← hnv,← hTK] at cg
     obtain ⟨HIS,HVA,HNV,HTK,HC1,HC2⟩:=zh6 his hva hnv hTK hc1 hc2
     clear hst hkj hTK hjl his hva hnv hsr
     subst hko hmo
     go_wp2_with (go_at_call 25;fail)
     refine cg.mono ?_
     rintro e w12 ⟨ga,gc,rfl,hb12,g12⟩
     have g12':=tn (uh HJ) g12
     have c1s:=g12'.cell hc1 (by simp)
     have hvr:=(uh HV11).nn g12'
     have cg2:=zhn hvr kj
     rw[uh HIS,← uh HVA,← uh HNV,← uh HTK] at cg2
     have HB12:=hide hb12
     have HG12:=hide g12'
     clear cg hb12 g12 g12' hvr c1r hc1 hc2
     go_wp2_with (go_at_call 25;fail)
     refine cg2.mono ?_
     rintro e w13 ⟨gb,gd,rfl,hb13,g13⟩
     have HBA:=hide ((uh HB12).kept g13 (fun _ e=>by cases e))
     have HBB:=hide hb13
     have HG13:=hide (tn (uh HG12) g13)
     have HC1:=hide ((uh HG13).cell (uh HC1) (by simp))
     have HC2:=hide ((uh HG13).cell (uh HC2) (by simp))
     clear cg2 hb13 g13 c1s HB12 HG12
     go_upto_region 24 with fail
     refine wp_region_noPanic ?_
     refine wp_region_held_drew (S:=fun V=>w13.grownBy V none) (by kernel_rfl) (zab (zaa w13 none)) (fun _ => ?_)
     refine tq 0 137 (.move (.tmp 13)) ((.slice (some ⟨b1,o1,none⟩) nk kc)) (zab (zaa w13 none)) ?_
     refine tq 1 138 (.move (.tmp 15)) ((.int .i64 (j:Int))) (zab (zaa w13 none)) ?_
     refine tq 2 139 (.indexAddr 30 (.tmp 137) (.tmp 138)) ((.pointer (some ⟨b1,o1+j,none⟩))) (zab (zaa w13 none)) ?_
     refine tz 3 140 (.load 9 (.tmp 139)) ((.string TK)) (zab (zaa w13 none)) ?_ (y:=(Or.inl ⟨by rfl,fun V hV=>by (have hv1:=hV.cell (uh HC1) (by simp);go_simp)⟩))
     (try simp only[pq])
     refine tq 4 141 (.move (.tmp 14)) ((.slice (some ⟨b2,o2,none⟩) nk mc)) (zab (zaa w13 none)) ?_
     refine tq 5 142 (.move (.tmp 15)) ((.int .i64 (j:Int))) (zab (zaa w13 none)) ?_
     refine tq 6 143 (.indexAddr 30 (.tmp 141) (.tmp 142)) ((.pointer (some ⟨b2,o2+j,none⟩))) (zab (zaa w13 none)) ?_
     refine tz 7 144 (.load 9 (.tmp 143)) ((.string TK)) (zab (zaa w13 none)) ?_ (y:=(Or.inl ⟨by rfl,fun V hV=>by (have hv1:=hV.cell (uh HC2) (by simp);go_simp)⟩))
     (try simp only[pq])
     refine tq 8 145 (.binOp .neq 9 (.tmp 140) (.tmp 144) 9) ((.bool false)) (zab (zaa w13 none)) ?_
     refine tq 9 146 (.move (.tmp 145)) ((.bool false)) (zab (zaa w13 none)) ?_
     refine tq 10 147 (.move (.tmp 19)) ((.bool true)) (zab (zaa w13 none)) ?_
     refine tq 11 148 (.unOp .not 4 (.tmp 147)) ((.bool false)) (zab (zaa w13 none)) ?_
     (try simp only[pq])
     refine tq 12 149 (.pick (.tmp 146) (.const (.bool true)) (.tmp 148)) ((.bool false)) (zab (zaa w13 none)) ?_
     refine tq 13 150 (.move (.tmp 149)) ((.bool false)) (zab (zaa w13 none)) ?_
     refine tq 14 151 (.move (.tmp 16)) ((.slice ga nv gc)) (zab (zaa w13 none)) ?_
     refine tz 15 152 (.convert 53 9 (.tmp 151)) ((.string (str va))) (zab (zaa w13 none)) ?_ (y:=(Or.inl ⟨by rfl,fun V hV=>by (have hv1:=zb1 ((uh HBA).kept hV (fun _ e=>by cases e)) (uh HNV);go_simp)⟩))
     (try simp only[pq])
     refine tq 16 153 (.move (.tmp 18)) ((.slice gb nv gd)) (zab (zaa w13 none)) ?_
     refine tz 17 154 (.convert 53 9 (.tmp 153)) ((.string (str va))) (zab (zaa w13 none)) ?_ (y:=(Or.inl ⟨by rfl,fun V hV=>by (have hv1:=zb1 ((uh HBB).kept hV (fun _ e=>by cases e)) (uh HNV);go_simp)⟩))
     refine tq 18 155 (.binOp .neq 9 (.tmp 152) (.tmp 154) 9) ((.bool false)) (zab (zaa w13 none)) ?_
     refine tq 19 156 (.pick (.tmp 150) (.const (.bool true)) (.tmp 155)) ((.bool false)) (zab (zaa w13 none)) ?_
     (try simp only[pq])
     refine wpAnyH_done (by kernel_rfl) ?_ _
     refine NoPanic.normal ?_
     go_wp2
     go_roundw
     case rel=>exact ⟨j+1,by go_num,by omega,hide (zab (uh HG13))⟩
     case measure=>simp[intOf];omega
    ·have hji:¬ (j:Int)<(nk:Int):=by omega
     have hd12:=(uh HD11).nn (uh HJ)
     have hs12:=(uh HS11).nn (uh HJ)
     obtain ⟨HD12,HS12⟩:=zh2 hd12 hs12
     clear hd12 hs12 HD11 HS11 HV11 HC HCM HJ
     go_wp2
     go_loopw [20] (fun i wr2=>∃ (q:Nat),i = .int .i64 q∧q≤16∧Hid (wr.grownBy wr2 none)) (fun i _=>16 - (intOf i).toNat)
     case atStart=>exact ⟨0,rfl,Nat.zero_le _,hide (zaa _ _)⟩
     case round =>
      obtain ⟨q,rfl,hq,HQ⟩:=hrel
      by_cases hqn:q<16
      ·have hqi:(q:Int)<16:=by omega
       have hqw:IntKind.i64.wrap ((q:Int)+1)=(q:Int)+1:=by rw[IntKind.wrap_i64];omega
       have cr:=zfa ((uh HD12).nn (uh HQ)) rfl (q:Int) q rfl (show q<S.length by have:=uh HS16;omega) (by simp)
       obtain ⟨lb,hlb⟩:∃ l,l=zec ⟨S,[],-1,false⟩ q:=⟨_,rfl⟩
       have hll:256=lb.length:=by rw[hlb];exact (zct (uh HD12).at_.ok (show q<S.length by have:=uh HS16;omega)).symm
       rw[← hlb] at cr
       obtain ⟨HLB,HLL⟩:=zh2 hlb hll
       clear hlb hll
       go_wp2_with (go_at_call 27;fail)
       refine cr.mono ?_
       rintro e w15 ⟨ra,rc,rfl,hb15,-,g15⟩
       have g15':=tn (uh HQ) g15
       have cr2:=zfa ((uh HS12).dw.nn g15') rfl (q:Int) q rfl (show q<S.length by have:=uh HS16;omega) (by simp)
       rw[← uh HLB] at cr2
       have HB15:=hide hb15
       have HG15:=hide g15'
       clear cr hb15 g15 g15'
       go_wp2_with (go_at_call 27;fail)
       refine cr2.mono ?_
       rintro e w16 ⟨rb,rd,rfl,hb16,-,g16⟩
       have hcx:=zb1 ((uh HB15).kept g16 (fun _ e=>by cases e)) (uh HLL)
       have hcy:=zb1 hb16 (uh HLL)
       have HG16:=hide (tn (uh HG15) g16)
       clear cr2 hb16 g16 HB15 HG15
       go_wp2
       go_roundw
       case rel=>exact ⟨q+1,by go_num,by omega,HG16⟩
       case measure=>simp[intOf];omega
      ·have hqi:¬ (q:Int)<16:=by omega
       have hgb:=tn (uh HS12).dw.gb (uh HQ)
       have c1:=zny _ ((uh HT).kept0 hgb)
       have HGB:=hide hgb
       clear hgb
       go_wp2_with (go_at_call 21;fail)
       refine c1.mono ?_
       rintro e w17 ⟨rfl,g17⟩
       have HGF:=hide (tn (uh HGB) g17)
       clear c1 g17
       go_wp2
       go_ret
       exact ⟨rfl,uh HGF⟩
end Go.Proofs.YtoilcpdhhlcidaaGreatDoor
