/- Lemmas. -/
import Derived.Test.YtoilcpdhhlcidaaGreatDoorSpPl
import Derived.Test.YtoilcpdhhlcidaaGreatDoorRStF
import Derived.Test.YtoilcpdhhlcidaaGreatDoorRStI
import Derived.Test.YtoilcpdhhlcidaaGreatDoorRPut
namespace Go.Proofs.YtoilcpdhhlcidaaGreatDoor
open Go.RowKit
theorem zsg:Ref1C:=⟨fun w b v hv hb=>zlh w b v 2 hv hb,fun w b x h=>zmp w b x h⟩
theorem zsh:MadeC:=⟨fun w ko kc vo vc s h hr hn co cc l hc hl=>zo4 w ko kc vo vc s h hr hn co cc l hc hl⟩
set_option maxRecDepth 100000 in
set_option maxHeartbeats 16000000 in
theorem zkb (w:World) (a:Int) (ao:Option Addr) (ac:Nat) (L:List SAc) (hL0:SActs w ao ac L) (pf:ByteArray) (hT:Tabs w) :
  Calls Tryz.prog 3 #[.int .i64 a,.slice ao L.length ac,.string pf] w fun e w'=>e = .returned (.bool true)∧w.grownBy w' none:=by
 obtain ⟨pl,hpl⟩:∃ l,pf=str l:=⟨pf.data.toList,by cases pf;simp[str]⟩
 obtain ⟨nl,hnl⟩:∃ n,n=L.length:=⟨_,rfl⟩
 rw[← hnl]
 have hnm:nl≤9223372036854775807:=by have h1:=hL0.row.fits;have h2:=hL0.row.most;unfold maxLen at h2;omega
 obtain ⟨j,hj,hand⟩:=zpr 31 (by decide) a
 have hand2:bits .and .i64 a 31=(j:Int):=hand
 obtain ⟨N,hN⟩:∃ N,N=8+j:=⟨_,rfl⟩
 have hNw:IntKind.i64.wrap (8+(j:Int))=(N:Int):=by rw[IntKind.wrap_i64];omega
 have hN8:8≤N∧N≤39:=by omega
 have cn:=lnew (zac w none) N (by omega) (by omega)
 obtain ⟨HT,HL,HNL,HPL,HN8⟩:=zh5 hT hL0 hnl hpl hN8
 clear hT hL0 hnl hN hj hand hN8 hpl
 go_enter Tryz.func3,Tryz.ntmps3
 go_wp2_with (go_at_call 9;fail)
 refine cn.mono ?_
 rintro e w1 ⟨d,F,rfl,hd1,hF,g1⟩
 have co:=zlf hd1 (zfj N) ((uh HT).kept0 g1) (by simp;exact (uh HN8).1)
 rw[show (List.replicate N zsec).length / 2=N / 2 by simp] at co
 clear cn hF hand2 hNw
 go_wp2_with (go_at_call 10;fail)
 refine co.mono ?_
 rintro e w2 ⟨s,m,F',rfl,hs2,-,-,-,-⟩
 have cw:=zqh w2 N (by have:=(uh HN8).2;omega)
 obtain ⟨r0,hr0⟩:∃ r,r=(⟨[],N / 2,2,0⟩:RSt):=⟨_,rfl⟩
 rw[← hr0] at cw
 obtain ⟨CS,hCS⟩:∃ C,C=rsC none 0 none 0 r0:=⟨_,rfl⟩
 rw[← hCS] at cw
 obtain ⟨HS2,HR0,HCS⟩:=zh3 hs2 hr0 hCS
 clear co hs2 hd1 g1 hr0 hCS
 go_wp2_with (go_at_call 11;fail)
 refine cw.mono ?_
 rintro e w3 ⟨rfl,g3⟩
 obtain ⟨Z,hZ5,hZs,hzv⟩:=zdv
 obtain ⟨W4,hW4,hB4,g4⟩:=zbu w3 32 Z CS
 have HBZ:=hide (show Blk (w3.alloc (.cells Z 32)) w3.heap.size 32 Z.toList by simpa using Blk.new w3 32 Z.toList)
 have HIE:=hide (show (Tryz.prog.info? 32).map (·.size)=some CS.toArray.size by rw[uh HCS];exact zas)
 have HZE:=hide (show Z.toList.toArray.size=CS.toArray.size by rw[uh HCS,Array.toArray_toList,hZ5];rfl)
 have HEO:=hide (show CS.toArray.all (·.oneCell')=true by rw[uh HCS];exact zbz _ _ _ _ _)
 have hs4:=(uh HS2).nn (tn g3 g4)
 obtain ⟨B,hB⟩:∃ B,B=w3.heap.size:=⟨_,rfl⟩
 have HP0:=hide (show PlS w W4 B F' s d m _ _ _ _ _ r0 none 0 none 0 (N / 2) 0 from ⟨by rw[uh HR0];exact hs4,by rw[uh HR0];exact AgI.begin _,by rw[uh HR0];exact ⟨Cel.nil _,Cel.nil _⟩,by rw[← uh HCS,hB];exact hB4,by rw[hB];exact (tn (uh HS2).dw.gb g3).size,fun hx=>by have h1:=(zj8 (uh HS2) _ hx).2;have h2:=g3.size;omega,(fun ad e=>by cases e),(fun ad e=>by cases e)⟩)
 obtain ⟨HW4,HZ5,HZS⟩:=zh3 hW4 hZ5 hZs
 clear cw hW4 hB4 hZ5 hZs hs4 g3 g4
 go_upto_region 7 with (have hB9:=uh HBZ;refine wpList_store_row rfl 32 _ _ rfl w3.heap.size CS.toArray rfl rfl _ _ hB9 (uh HIE) (uh HZE) (uh HEO) ?_;clear hB9;rw[← uh HW4])
 rw[← hB]
 have HBB:=hide hB
 clear hB
 (try simp only[Act.put])
 go_wp2
 go_loopw [9,12] (fun sv iv wr=>∃ (k s:Nat),sv = .pointer (some ⟨s,0,none⟩)∧iv = .int .i64 k∧k≤30∧k≤nl∧Hid (∃ F m S c g ls p rs ko kc vo vc,PlS w wr B F s d m S c g ls p rs ko kc vo vc (N / 2) k)) (fun _ i _=>nl - (intOf i).toNat)
 case atStart=>exact ⟨0,s,rfl,rfl,Nat.zero_le _,Nat.zero_le _,hide ⟨_,_,_,_,_,_,_,_,_,_,_,_,uh HP0⟩⟩
 case round =>
  obtain ⟨wo,hwo⟩:∃ W,W=wr:=⟨_,rfl⟩
  subst hwo
  obtain ⟨k,s,rfl,rfl,hk,hkn,HJ⟩:=hrel
  obtain ⟨F,m,S,c,g,ls,p,rs,ko,kc,vo,vc,hP⟩:=uh HJ
  have HP:=hide hP
  clear HP0 hP HJ
  by_cases hlt:k<nl
  ·have hki:(k:Int)<(nl:Int):=by omega
   have hkd:decide ((k:Int)<(nl:Int))=true:=decide_eq_true hki
   by_cases h30:k<30
   ·have h30i:(k:Int)<30:=by omega
    have hkw:IntKind.i64.wrap ((k:Int)+1)=(k:Int)+1:=by rw[IntKind.wrap_i64];omega
    have hkl:k<L.length:=by rw[← uh HNL];exact hlt
    obtain ⟨b,o,hao,hrow⟩:=(uh HL).row.at k hkl
    obtain ⟨x,hx⟩:∃ x,x=L[k]:=⟨_,rfl⟩
    rw[← hx] at hrow
    have hxi:CsI w x.ao x.ac x.L:=by rw[hx];exact (uh HL).ats _ (List.getElem_mem hkl)
    obtain ⟨nx,hnx⟩:∃ n,n=x.L.length:=⟨_,rfl⟩
    obtain ⟨xk,hxk⟩:∃ n,n=x.kind:=⟨_,rfl⟩
    have q0:w.cell? ⟨b,o+k*2,none⟩=some (.int .i64 xk):=by have:=hrow 0 _ rfl;rw[hxk];simpa using this
    have q1:w.cell? ⟨b,o+k*2+1,none⟩=some (.slice x.ao nx x.ac):=by have:=hrow 1 _ rfl;rw[hnx];exact this
    have hgw:=(uh HP).st.dw.gb
    have q0r:=hgw.cell q0 (by simp)
    have q1r:=hgw.cell q1 (by simp)
    have cs:=zmk wo x.ao x.ac x.L (hxi.kept hgw)
    rw[← hnx] at cs
    obtain ⟨HXI,HNX,HQ1,HGW⟩:=zh4 hxi hnx q1 hgw
    clear hrow hx q0 q1 hxi hnx hkl hxk hgw
    subst hao
    by_cases hk1:xk=1
    ·subst hk1
     have cp:=zox (uh HP).st.dw (uh HP).st.on ((uh HT).kept0 (uh HGW)) (uh HP).st.hn (by have h1:=(uh HP).st.hn;have h2:=(uh HP).ag.half;have h3:=(uh HN8).1;omega)
     clear cs q1r
     go_wp2_with (go_at_call 10;fail)
     refine cp.mono ?_
     rintro e w5 ⟨s5,m5,rfl,hs5,g5,hs5n,hm5n⟩
     have HP5:=hide (((uh HP).again g5 hs5 hs5n hm5n).step)
     clear cp hs5 g5 hs5n hm5n q0r HP HXI HNX HQ1 HGW
     obtain ⟨rz,hrz⟩:∃ r,r=rs:=⟨_,rfl⟩
     have hp5:=uh HP5
     rw[← hrz] at hp5
     clear hrz HP5
     obtain ⟨CR,hCR⟩:∃ C,C=rsC ko kc vo vc rz:=⟨_,rfl⟩
     have HP6:=hide hp5
     have hbx:=hp5.bx
     rw[← hCR] at hbx
     have HRG:=hide (zan hbx)
     have HIR:=hide (show (Tryz.prog.info? 32).map (·.size)=some CR.length by rw[hCR];exact zas)
     obtain ⟨hf,hhf⟩:∃ n,n=rz.half:=⟨_,rfl⟩
     obtain ⟨us,hus⟩:∃ n,n=rz.used:=⟨_,rfl⟩
     obtain ⟨mv,hmv⟩:∃ n,n=rz.moves:=⟨_,rfl⟩
     obtain ⟨lf,hlf⟩:∃ n,n=hf - us:=⟨_,rfl⟩
     have bnd:=hp5.st.bnd
     have hag:=hp5.ag
     have hmv1:mv≤31:=by have:=hag.moves;omega
     have huh:us≤hf:=by have:=bnd.2.2.2.1;omega
     have hfb:hf≤2048:=by have h1:=bnd.1;have h2:=bnd.2.1;omega
     have c2:=hbx.cell 2
     have c3:=hbx.cell 3
     have c4:=hbx.cell 4
     rw[hCR] at c2 c3 c4
     unfold rsC at c2 c3 c4
     simp only[List.getElem?_cons_zero,List.getElem?_cons_succ] at c2 c3 c4
     rw[← hhf] at c2
     rw[← hus] at c3
     rw[← hmv] at c4
     have HSB:=hide (show IntKind.i64.wrap ((hf:Int) - (us:Int))=(lf:Int) by rw[IntKind.wrap_i64];omega)
     have HCV:=hide (show IntKind.u64.wrap (mv:Int)=(mv:Int) by rw[IntKind.wrap_u64];omega)
     have CLK:=hide (show ∀ V,w5.grownBy V none→Calls Tryz.prog 16 #[.pointer (some ⟨s5,0,none⟩),.agg CR.toArray] V fun e w'=>e = .returned (.int .i64 1)∧V.grownBy w' none from fun V gV=>by rw[hCR];exact zgo (hp5.st.nn gV) (by have:=hag.V;omega) _ _ _ _ (hp5.rw.kept gV))
     have CLF:=hide (show ∀ V,w5.grownBy V none→Calls Tryz.prog 17 #[.pointer (some ⟨s5,0,none⟩)] V fun e w'=>e = .returned (.int .i64 (lf:Int))∧V.grownBy w' none from fun V gV=>by rw[hlf,hhf,hus];exact zia (hp5.st.nn gV))
     have CMV:=hide (show ∀ V,w5.grownBy V none→Calls Tryz.prog 18 #[.pointer (some ⟨s5,0,none⟩)] V fun e w'=>e = .returned (.int .u64 (mv:Int))∧w'=V from fun V gV=>by rw[hmv];exact zgn (hp5.st.nn gV) (by omega))
     have CST:=hide (show ∀ V,w5.grownBy V none→Calls Tryz.prog 19 #[.pointer (some ⟨s5,0,none⟩)] V fun e w'=>e = .returned (.bool false)∧w'=V from fun V gV=>zib (hp5.st.nn gV))
     obtain ⟨HC2,HC3,HC4⟩:=zh3 c2 c3 c4
     clear hp5 hbx hhf hus hmv hlf bnd hag hmv1 huh hfb c2 c3 c4 hCR
     go_upto_region 20 with fail
     refine wp_region_noPanic ?_
     refine wp_region_held_drew (S:=fun V=>w5.grownBy V none) (by kernel_rfl) (zaa (zac w5 none)) (fun _ => ?_)
     refine tq 0 92 (.move (.tmp 9)) ((.pointer (some ⟨s5,0,none⟩))) (zaa (zac w5 none)) ?_
     refine tz 1 93 (.load 32 (.tmp 11)) (.agg CR.toArray) (zaa (zac w5 none)) ?_ (y:=(yieldsIf_load_mid (by rfl) _ _ rfl _ _ rfl CR _ (fun V hV=>zak (uh HRG) hV (by simp)) Tryz.underlying32 rfl (uh HIR)))
     (try simp only[pq])
     refine rdq 2 (some 94) (.call { callee := .value (.func 16),args := #[(.tmp 92),(.tmp 93)],argTypes := #[27,32] }) (fun K9 hK9 => ?_)
     go_simp
     go_at_call 16
     refine ((uh CLK) _ (zaa (zac w5 none))).mono ?_
     rintro e wq1 ⟨rfl,gq1⟩
     have GQ1:=hide (tn (zaa (zac w5 none)) gq1)
     clear gq1
     go_wp2_with fail
     refine hK9.out _ _ (uh GQ1) (fun _ => ?_)
     clear hK9 K9
     refine tq 3 95 (.binOp .eql 3 (.tmp 94) (.const (.int .i64 0)) 3) ((.bool false)) (uh GQ1) ?_
     refine tq 4 96 (.move (.tmp 95)) ((.bool false)) (uh GQ1) ?_
     refine tq 5 97 (.move (.tmp 9)) ((.pointer (some ⟨s5,0,none⟩))) (uh GQ1) ?_
     (try simp only[pq])
     refine tq 7 99 (.fieldAddr 32 (.tmp 11) 2) ((.pointer (some ⟨B,2,none⟩))) (uh GQ1) ?_
     refine tz 8 100 (.load 3 (.tmp 99)) ((.int .i64 (hf:Int))) (uh GQ1) ?_ (y:=(Or.inl ⟨by rfl,fun V hV=>by (have hv1:=hV.cell (uh HC2) (by simp);go_simp)⟩))
     refine tq 9 101 (.fieldAddr 32 (.tmp 11) 3) ((.pointer (some ⟨B,3,none⟩))) (uh GQ1) ?_
     refine tz 10 102 (.load 3 (.tmp 101)) ((.int .i64 (us:Int))) (uh GQ1) ?_ (y:=(Or.inl ⟨by rfl,fun V hV=>by (have hv1:=hV.cell (uh HC3) (by simp);go_simp)⟩))
     (try simp only[pq])
     refine tz 11 103 (.binOp .sub 3 (.tmp 100) (.tmp 102) 3) ((.int .i64 (lf:Int))) (uh GQ1) ?_ (y:=(Or.inl ⟨by rfl,fun V hV=>by (have hv0:=uh HSB;go_simp)⟩))
     (try simp only[pq])
     refine rdq 6 (some 98) (.call { callee := .value (.func 17),args := #[(.tmp 97)],argTypes := #[27] }) (fun K9 hK9 => ?_)
     go_simp
     go_at_call 17
     refine ((uh CLF) _ (uh GQ1)).mono ?_
     rintro e wq2 ⟨rfl,gq2⟩
     have GQ2:=hide (tn (uh GQ1) gq2)
     clear gq2
     go_wp2_with fail
     refine hK9.out _ _ (uh GQ2) (fun _ => ?_)
     clear hK9 K9
     refine tq 12 104 (.binOp .neq 3 (.tmp 98) (.tmp 103) 3) ((.bool false)) (uh GQ2) ?_
     refine tq 13 105 (.pick (.tmp 96) (.const (.bool true)) (.tmp 104)) ((.bool false)) (uh GQ2) ?_
     refine tq 14 106 (.move (.tmp 105)) ((.bool false)) (uh GQ2) ?_
     (try simp only[pq])
     refine tq 15 107 (.move (.tmp 9)) ((.pointer (some ⟨s5,0,none⟩))) (uh GQ2) ?_
     refine tq 17 109 (.fieldAddr 32 (.tmp 11) 4) ((.pointer (some ⟨B,4,none⟩))) (uh GQ2) ?_
     refine tz 18 110 (.load 3 (.tmp 109)) ((.int .i64 (mv:Int))) (uh GQ2) ?_ (y:=(Or.inl ⟨by rfl,fun V hV=>by (have hv1:=hV.cell (uh HC4) (by simp);go_simp)⟩))
     refine tz 19 111 (.convert 3 45 (.tmp 110)) ((.int .u64 (mv:Int))) (uh GQ2) ?_ (y:=(Or.inl ⟨by rfl,fun V hV=>by (have hv0:=uh HCV;go_simp)⟩))
     (try simp only[pq])
     refine rdq 16 (some 108) (.call { callee := .value (.func 18),args := #[(.tmp 107)],argTypes := #[27] }) (fun K9 hK9 => ?_)
     go_simp
     go_at_call 18
     refine ((uh CMV) _ (uh GQ2)).mono ?_
     rintro e wq3 ⟨rfl,eq3⟩
     subst wq3
     go_wp2_with fail
     refine hK9.out _ _ (uh GQ2) (fun _ => ?_)
     clear hK9 K9
     refine tq 20 112 (.binOp .neq 45 (.tmp 108) (.tmp 111) 45) ((.bool false)) (uh GQ2) ?_
     refine tq 21 113 (.pick (.tmp 106) (.const (.bool true)) (.tmp 112)) ((.bool false)) (uh GQ2) ?_
     refine tq 22 114 (.move (.tmp 113)) ((.bool false)) (uh GQ2) ?_
     (try simp only[pq])
     refine tq 23 115 (.move (.tmp 9)) ((.pointer (some ⟨s5,0,none⟩))) (uh GQ2) ?_
     (try simp only[pq])
     refine rdq 24 (some 116) (.call { callee := .value (.func 19),args := #[(.tmp 115)],argTypes := #[27] }) (fun K9 hK9 => ?_)
     go_simp
     go_at_call 19
     refine ((uh CST) _ (uh GQ2)).mono ?_
     rintro e wq4 ⟨rfl,eq4⟩
     subst wq4
     go_wp2_with fail
     refine hK9.out _ _ (uh GQ2) (fun _ => ?_)
     clear hK9 K9
     refine tq 25 117 (.pick (.tmp 114) (.const (.bool true)) (.tmp 116)) ((.bool false)) (uh GQ2) ?_
     (try simp only[pq])
     refine wpAnyH_done (by kernel_rfl) ?_ _
     refine NoPanic.normal ?_
     have HPE:=hide ((uh HP6).nn (uh GQ2))
     clear CLK CLF CMV CST HC2 HC3 HC4 HRG HIR HP6
     go_wp2
     go_roundw
     case rel=>exact ⟨k+1,s5,rfl,by go_num,by omega,by omega,hide ⟨_,_,_,_,_,_,_,_,_,_,_,_,uh HPE⟩⟩
     case measure=>simp[intOf];omega
    ·have hki1:¬ xk=1:=hk1
     go_wp2_with (go_at_call 12;fail)
     refine cs.mono ?_
     rintro e w5 ⟨bb,rfl,g5,hbb⟩
     clear cs q0r q1r
     cases bb with
     | true =>
       have h8:=hbb rfl
       have h9:=zrs x.L
       have hx8:x.L.length≤800:=by omega
       have hp5:=(uh HP).nn g5
       obtain ⟨l,hl⟩:∃ l,l=x.L.map ChI.chg:=⟨_,rfl⟩
       have hll:l.length=nx:=by rw[hl,List.length_map];exact (uh HNX).symm
       obtain ⟨r2,hr2⟩:∃ r,r=(cmS rs l).1:=⟨_,rfl⟩
       obtain ⟨z2,hz2⟩:∃ r,r=(cmS rs l).2:=⟨_,rfl⟩
       obtain ⟨CR,hCR⟩:∃ C,C=rsC ko kc vo vc rs:=⟨_,rfl⟩
       have hgw5:=tn (uh HGW) g5
       have HOWN:=hide (show ∀ V,w5.grownBy V none→Calls Tryz.prog 14 #[.slice x.ao nx x.ac] V fun e w'=>∃ bo bc,e = .returned (.slice bo nx bc)∧Rws w' 3 crC bo bc l∧V.grownBy w' none from fun V gV=>by
        have c0:=zlq V x.ao x.ac x.L ((uh HXI).kept (tn hgw5 gV)) (by omega)
        rw[List.take_of_length_le (by omega:x.L.length≤5000),List.take_of_length_le (by rw[List.length_map];omega),← hl,← uh HNX] at c0
        exact c0.mono fun e w' q=>by
         obtain ⟨bo,bc,q1,q2,-,q4⟩:=q
         exact ⟨bo,bc,q1,q2,q4⟩)
       have hbd:=hp5.st.bnd
       have HCMT:=hide (show ∀ V,w5.grownBy V none→∀ bo bc,Rws V 3 crC bo bc l→Calls Tryz.prog 13 #[.agg CR.toArray,.slice bo nx bc] V fun e w'=>CmP V w' e ko vo r2 z2 from fun V gV bo bc hb=>by
        rw[hCR,hr2,hz2,← hll]
        exact zka zsg zsh V ko kc vo vc rs (hp5.rw.kept gV) hp5.st.on.ris (by have:=hp5.ag.V;omega) hp5.st.on.keys ⟨by omega,by omega,by have:=hp5.ag.moves;omega⟩ bo bc l hb (by rw[hll];have:=uh HNX;omega))
       have hbx:=hp5.bx
       rw[← hCR] at hbx
       have HRG:=hide (zan hbx)
       have HIR:=hide (show (Tryz.prog.info? 32).map (·.size)=some CR.length by rw[hCR];exact zas)
       have q15:=hgw5.cell (uh HQ1) (by simp)
       obtain ⟨HQ15,HP5,HLL,HL2,HR2,HZ2⟩:=zh6 q15 hp5 hll hl hr2 hz2
       obtain ⟨HGW5,HX8⟩:=zh2 hgw5 hx8
       clear hp5 hl hll hr2 hz2 hCR hgw5 hbd hbx q15 hbb h8 h9 hx8 g5 HP HGW HQ1
       go_upto_region 16 with fail
       go_cut [15,16] (fun x15 x16 wx=>∃ (q:Nat) (k7:Option Addr) (d7:Nat) (v7:Option Addr) (e7:Nat),x15 = .pointer (some ⟨q,0,none⟩)∧x16 = .int .i64 z2∧Blk wx q 32 (rsC k7 d7 v7 e7 r2)∧RsW wx k7 d7 v7 e7 r2∧Fre w5 wx ko k7∧Fre w5 wx vo v7∧w5.heap.size≤q∧w5.grownBy wx none)
       case first =>
        as_aux_lemma =>
        have hu:w5.grownBy w5.drew none:=zaa (zac w5 none)
        refine wp_region_noPanic ?_
        refine wp_region_held_drew (S:=fun V=>w5.grownBy V none) (by kernel_rfl) hu (fun _ => ?_)
        obtain ⟨WD,hWD⟩:∃ V,V=w5.drew:=⟨_,rfl⟩
        rw[← hWD]
        rw[← hWD] at hu
        clear hWD
        refine tz 0 72 (.load 32 (.tmp 11)) (.agg CR.toArray) hu ?_ (y:=(yieldsIf_load_mid (by rfl) _ _ rfl _ _ rfl CR _ (fun V hV=>zak (uh HRG) hV (by simp)) Tryz.underlying32 rfl (uh HIR)))
        refine tq 1 73 (.move (.tmp 1)) ((.slice (some ⟨b,o,none⟩) nl ac)) hu ?_
        refine tq 2 74 (.move (.tmp 12)) ((.int .i64 (k:Int))) hu ?_
        refine tq 3 75 (.indexAddr 22 (.tmp 73) (.tmp 74)) ((.pointer (some ⟨b,o+k*2,none⟩))) hu ?_
        (try simp only[pq])
        refine tq 4 76 (.fieldAddr 36 (.tmp 75) 1) ((.pointer (some ⟨b,o+k*2+1,none⟩))) hu ?_
        refine tz 5 77 (.load 34 (.tmp 76)) ((.slice x.ao nx x.ac)) hu ?_ (y:=(Or.inl ⟨by rfl,fun V hV=>by (have hv1:=hV.cell (uh HQ15) (by simp);go_simp)⟩))
        (try simp only[pq])
        refine wpAnyH_ready (rs:=[6,11]) (by kernel_rfl) (by simp) ?_
        refine AllReadyH.cons (o:=⟨some 78,.call { callee := .value (.func 14),args := #[(.tmp 77)],argTypes := #[34] },_,_,_,_⟩) rfl (fun K9 hK9 => ?_) (AllReadyH.cons (o:=⟨some 15,.alloc 32,_,_,_,_⟩) rfl (fun K9 hK9 => ?_) AllReadyH.nil)
        ·go_simp
         go_at_call 14
         refine ((uh HOWN) _ hu).mono ?_
         rintro e w6 ⟨bo,bc,rfl,hrow6,g6⟩
         have hh1:=tn hu g6
         go_wp2_with fail
         refine hK9.out _ _ hh1 (fun _ => ?_)
         clear hK9 K9
         (try simp only[pq])
         refine wpAnyH_ready (rs:=[7,11]) (by kernel_rfl) (by simp) ?_
         refine AllReadyH.cons (o:=⟨some 79,.call { callee := .value (.func 13),args := #[(.tmp 72),(.tmp 78)],argTypes := #[32,40] },_,_,_,_⟩) rfl (fun K9 hK9 => ?_) (AllReadyH.cons (o:=⟨some 15,.alloc 32,_,_,_,_⟩) rfl (fun K9 hK9 => ?_) AllReadyH.nil)
         ·go_simp
          go_at_call 13
          refine ((uh HCMT) _ hh1 bo bc hrow6).mono ?_
          rintro e w7 ⟨k7,d7,v7,e7,rfl,hR7,hk7,hv7,g7⟩
          have hk7b:=hk7.low (hh1).size
          have hv7b:=hv7.low (hh1).size
          obtain ⟨C7,hC7⟩:∃ C,C=rsC k7 d7 v7 e7 r2:=⟨_,rfl⟩
          rw[← hC7]
          have HC7:=hide hC7
          clear hC7
          have hh2:=tn hh1 g7
          go_wp2_with fail
          refine hK9.out _ _ hh2 (fun _ => ?_)
          clear hK9 K9
          refine tq 8 71 (.move (.tmp 79)) ((.tuple #[.agg C7.toArray,.int .i64 z2])) hh2 ?_
          refine tq 9 80 (.extract (.tmp 71) 0) ((.agg C7.toArray)) hh2 ?_
          refine tq 10 81 (.extract (.tmp 71) 1) ((.int .i64 z2)) hh2 ?_
          (try simp only[pq])
          refine rdq 11 (some 15) (.alloc 32) (fun K9 hK9 => ?_)
          obtain ⟨wa,hwa⟩:∃ W,W=w7.alloc (.cells Z 32):=⟨_,rfl⟩
          have ga:w7.grownBy wa none:=by rw[hwa];exact zaf (zac _ _) _
          have blka:Blk wa w7.heap.size 32 Z.toList:=by rw[hwa];simpa using Blk.new w7 32 Z.toList
          have hqn:w5.heap.size≤w7.heap.size:=(hh2).size
          go_simp
          rw[← hwa]
          clear hwa
          have hh3:=tn hh2 ga
          have R73:=hR7.kept ga
          have K73:=hk7b.grow (ga).size
          have V73:=hv7b.grow (ga).size
          refine hK9.out _ _ hh3 (fun _ => ?_)
          clear hK9 K9
          (try simp only[pq])
          refine rdq 12 none (.store 32 (.tmp 15) (.tmp 80)) (fun K9 hK9 => ?_)
          have HI7:=hide (show (Tryz.prog.info? 32).map (·.size)=some C7.toArray.size by rw[uh HC7];exact zas)
          have HZ7:=hide (show Z.toList.toArray.size=C7.toArray.size by rw[uh HC7,Array.toArray_toList,uh HZ5];rfl)
          have HE7:=hide (show C7.toArray.all (·.oneCell')=true by rw[uh HC7];exact zbz _ _ _ _ _)
          rw[if_pos (by rfl)]
          refine wp_store_row _ _ _ rfl (w7.heap.size) _ rfl rfl _ _ blka (uh HI7) (uh HZ7) (uh HE7) ?_
          have gs:wa.grownBy (wa.setRow (w7.heap.size) C7.toArray) (some (w7.heap.size)):=zaj (zac _ _) _ (Or.inr rfl)
          have h9:w5.grownBy (wa.setRow (w7.heap.size) C7.toArray) none:=zaj hh3 _ (Or.inl hqn)
          have B9:=blka.row C7
          have R9:=zj9 R73 blka (uh HZS) gs
          have K9q:=K73.grow gs.size
          have V9q:=V73.grow gs.size
          refine hK9.out _ _ h9 (fun _ => ?_)
          clear hK9 K9
          (try simp only[Act.put])
          refine tq 13 16 (.assign (.tmp 81)) ((.int .i64 z2)) h9 ?_
          (try simp only[pq])
          refine wpAnyH_done (by kernel_rfl) ?_ _
          refine NoPanic.normal ?_
          go_wp2_with fail
          go_meet
          case rel=>exact ⟨w7.heap.size,k7,d7,v7,e7,rfl,rfl,by rw[← uh HC7];exact B9,R9,K9q,V9q,hqn,h9⟩
         ·obtain ⟨wa,hwa⟩:∃ W,W=w6.alloc (.cells Z 32):=⟨_,rfl⟩
          have ga:w6.grownBy wa none:=by rw[hwa];exact zaf (zac _ _) _
          have blka:Blk wa w6.heap.size 32 Z.toList:=by rw[hwa];simpa using Blk.new w6 32 Z.toList
          have hqn:w5.heap.size≤w6.heap.size:=(hh1).size
          go_simp
          rw[← hwa]
          clear hwa
          have hh2:=tn hh1 ga
          have row2:=hrow6.kept ga
          refine hK9.out _ _ hh2 (fun _ => ?_)
          clear hK9 K9
          (try simp only[pq])
          refine rdq 7 (some 79) (.call { callee := .value (.func 13),args := #[(.tmp 72),(.tmp 78)],argTypes := #[32,40] }) (fun K9 hK9 => ?_)
          go_simp
          go_at_call 13
          refine ((uh HCMT) _ hh2 bo bc row2).mono ?_
          rintro e w7 ⟨k7,d7,v7,e7,rfl,hR7,hk7,hv7,g7⟩
          have hk7b:=hk7.low (hh2).size
          have hv7b:=hv7.low (hh2).size
          obtain ⟨C7,hC7⟩:∃ C,C=rsC k7 d7 v7 e7 r2:=⟨_,rfl⟩
          rw[← hC7]
          have HC7:=hide hC7
          clear hC7
          have hh3:=tn hh2 g7
          have blk3:=blka.kept g7 (by simp)
          go_wp2_with fail
          refine hK9.out _ _ hh3 (fun _ => ?_)
          clear hK9 K9
          refine tq 8 71 (.move (.tmp 79)) ((.tuple #[.agg C7.toArray,.int .i64 z2])) hh3 ?_
          refine tq 9 80 (.extract (.tmp 71) 0) ((.agg C7.toArray)) hh3 ?_
          refine tq 10 81 (.extract (.tmp 71) 1) ((.int .i64 z2)) hh3 ?_
          (try simp only[pq])
          refine rdq 12 none (.store 32 (.tmp 15) (.tmp 80)) (fun K9 hK9 => ?_)
          have HI7:=hide (show (Tryz.prog.info? 32).map (·.size)=some C7.toArray.size by rw[uh HC7];exact zas)
          have HZ7:=hide (show Z.toList.toArray.size=C7.toArray.size by rw[uh HC7,Array.toArray_toList,uh HZ5];rfl)
          have HE7:=hide (show C7.toArray.all (·.oneCell')=true by rw[uh HC7];exact zbz _ _ _ _ _)
          rw[if_pos (by rfl)]
          refine wp_store_row _ _ _ rfl (w6.heap.size) _ rfl rfl _ _ blk3 (uh HI7) (uh HZ7) (uh HE7) ?_
          have gs:w7.grownBy (w7.setRow (w6.heap.size) C7.toArray) (some (w6.heap.size)):=zaj (zac _ _) _ (Or.inr rfl)
          have h9:w5.grownBy (w7.setRow (w6.heap.size) C7.toArray) none:=zaj hh3 _ (Or.inl hqn)
          have B9:=blk3.row C7
          have R9:=zj9 hR7 blk3 (uh HZS) gs
          have K9q:=hk7b.grow gs.size
          have V9q:=hv7b.grow gs.size
          refine hK9.out _ _ h9 (fun _ => ?_)
          clear hK9 K9
          (try simp only[Act.put])
          refine tq 13 16 (.assign (.tmp 81)) ((.int .i64 z2)) h9 ?_
          (try simp only[pq])
          refine wpAnyH_done (by kernel_rfl) ?_ _
          refine NoPanic.normal ?_
          go_wp2_with fail
          go_meet
          case rel=>exact ⟨w6.heap.size,k7,d7,v7,e7,rfl,rfl,by rw[← uh HC7];exact B9,R9,K9q,V9q,hqn,h9⟩
        ·obtain ⟨wa,hwa⟩:∃ W,W=WD.alloc (.cells Z 32):=⟨_,rfl⟩
         have ga:WD.grownBy wa none:=by rw[hwa];exact zaf (zac _ _) _
         have blka:Blk wa WD.heap.size 32 Z.toList:=by rw[hwa];simpa using Blk.new WD 32 Z.toList
         have hqn:w5.heap.size≤WD.heap.size:=(hu).size
         go_simp
         rw[← hwa]
         clear hwa
         have hh1:=tn hu ga
         refine hK9.out _ _ hh1 (fun _ => ?_)
         clear hK9 K9
         (try simp only[pq])
         refine rdq 6 (some 78) (.call { callee := .value (.func 14),args := #[(.tmp 77)],argTypes := #[34] }) (fun K9 hK9 => ?_)
         go_simp
         go_at_call 14
         refine ((uh HOWN) _ hh1).mono ?_
         rintro e w6 ⟨bo,bc,rfl,hrow6,g6⟩
         have hh2:=tn hh1 g6
         have blk2:=blka.kept g6 (by simp)
         go_wp2_with fail
         refine hK9.out _ _ hh2 (fun _ => ?_)
         clear hK9 K9
         (try simp only[pq])
         refine rdq 7 (some 79) (.call { callee := .value (.func 13),args := #[(.tmp 72),(.tmp 78)],argTypes := #[32,40] }) (fun K9 hK9 => ?_)
         go_simp
         go_at_call 13
         refine ((uh HCMT) _ hh2 bo bc hrow6).mono ?_
         rintro e w7 ⟨k7,d7,v7,e7,rfl,hR7,hk7,hv7,g7⟩
         have hk7b:=hk7.low (hh2).size
         have hv7b:=hv7.low (hh2).size
         obtain ⟨C7,hC7⟩:∃ C,C=rsC k7 d7 v7 e7 r2:=⟨_,rfl⟩
         rw[← hC7]
         have HC7:=hide hC7
         clear hC7
         have hh3:=tn hh2 g7
         have blk3:=blk2.kept g7 (by simp)
         go_wp2_with fail
         refine hK9.out _ _ hh3 (fun _ => ?_)
         clear hK9 K9
         refine tq 8 71 (.move (.tmp 79)) ((.tuple #[.agg C7.toArray,.int .i64 z2])) hh3 ?_
         refine tq 9 80 (.extract (.tmp 71) 0) ((.agg C7.toArray)) hh3 ?_
         refine tq 10 81 (.extract (.tmp 71) 1) ((.int .i64 z2)) hh3 ?_
         (try simp only[pq])
         refine rdq 12 none (.store 32 (.tmp 15) (.tmp 80)) (fun K9 hK9 => ?_)
         have HI7:=hide (show (Tryz.prog.info? 32).map (·.size)=some C7.toArray.size by rw[uh HC7];exact zas)
         have HZ7:=hide (show Z.toList.toArray.size=C7.toArray.size by rw[uh HC7,Array.toArray_toList,uh HZ5];rfl)
         have HE7:=hide (show C7.toArray.all (·.oneCell')=true by rw[uh HC7];exact zbz _ _ _ _ _)
         rw[if_pos (by rfl)]
         refine wp_store_row _ _ _ rfl (WD.heap.size) _ rfl rfl _ _ blk3 (uh HI7) (uh HZ7) (uh HE7) ?_
         have gs:w7.grownBy (w7.setRow (WD.heap.size) C7.toArray) (some (WD.heap.size)):=zaj (zac _ _) _ (Or.inr rfl)
         have h9:w5.grownBy (w7.setRow (WD.heap.size) C7.toArray) none:=zaj hh3 _ (Or.inl hqn)
         have B9:=blk3.row C7
         have R9:=zj9 hR7 blk3 (uh HZS) gs
         have K9q:=hk7b.grow gs.size
         have V9q:=hv7b.grow gs.size
         refine hK9.out _ _ h9 (fun _ => ?_)
         clear hK9 K9
         (try simp only[Act.put])
         refine tq 13 16 (.assign (.tmp 81)) ((.int .i64 z2)) h9 ?_
         (try simp only[pq])
         refine wpAnyH_done (by kernel_rfl) ?_ _
         refine NoPanic.normal ?_
         go_wp2_with fail
         go_meet
         case rel=>exact ⟨WD.heap.size,k7,d7,v7,e7,rfl,rfl,by rw[← uh HC7];exact B9,R9,K9q,V9q,hqn,h9⟩
       case rest =>
        obtain ⟨q,k7,d7,v7,e7,rfl,rfl,hq,hR7,hk7,hv7,hqn,g7⟩:=hcut
        obtain ⟨w7,hw7⟩:∃ W,W=wc:=⟨_,rfl⟩
        rw[← hw7]
        rw[← hw7] at hq hR7 hk7 hv7 g7
        have hs7:=(uh HP5).st.nn g7
        have hgw7:=tn (uh HGW5) g7
        have cc:=zhj hs7 ((uh HT).kept0 hgw7) x.ao x.ac x.L ((uh HXI).csg hgw7 (fun y hy=>(zj8 hs7 y hy).1)) (by have:=uh HX8;omega) (by have:=(uh HP5).ag.moves;omega) (by have:=(uh HP5).ag.V;omega)
        rw[← uh HNX,← uh HL2,← uh HR2,← uh HZ2] at cc
        have q17:=g7.cell (uh HQ15) (by simp)
        obtain ⟨HQ7,HR7,HK7,HV7,HQN,HG7⟩:=zh6 hq hR7 hk7 hv7 hqn g7
        clear hq hR7 hk7 hv7 hqn g7 hw7 hs7 hgw7 HOWN HCMT HRG HIR HQ15
        go_wp2_with (go_at_call 15;fail)
        refine cc.mono ?_
        rintro e w8 ⟨rfl,F8,m8,S8,c8,g8,ls8,p8,hs8,hF8,hm8,hfr8,-⟩
        obtain ⟨hq8,hB8,hP8⟩:=(uh HP5).made (l:=l) (by rw[uh HLL];have h1:=uh HX8;have h2:=uh HNX;omega) (uh HG7) (by rw[← uh HR2];exact uh HR7) (uh HK7) (uh HV7) (by rw[← uh HR2];exact uh HQ7) (uh HQN) (by rw[← uh HR2];exact hs8) hF8 hm8 hfr8
        rw[← uh HR2] at hq8 hP8
        obtain ⟨C8,hC8⟩:∃ C,C=rsC k7 d7 v7 e7 r2:=⟨_,rfl⟩
        rw[← hC8] at hq8 hP8
        obtain ⟨W9,hW9⟩:∃ W,W=w8.setRow B C8.toArray:=⟨_,rfl⟩
        rw[← hW9] at hP8
        have hq9:w8.rangeAt q 0 C8:=zan hq8
        obtain ⟨HB8,HP5,HW9⟩:=zh3 hB8 hP8 hW9
        have HIa:=hide (show (Tryz.prog.info? 32).map (·.size)=some C8.length by rw[hC8];exact zas)
        have HIb:=hide (show (Tryz.prog.info? 32).map (·.size)=some C8.toArray.size by rw[hC8];exact zas)
        have HZb:=hide (show (rsC ko kc vo vc rs).toArray.size=C8.toArray.size by rw[hC8];rfl)
        have HEb:=hide (show C8.toArray.all (·.oneCell')=true by rw[hC8];exact zbz _ _ _ _ _)
        clear cc q17 hs8 hF8 hm8 hfr8 hq8 hB8 hP8 hC8 hW9 HQ7 HR7 HK7 HV7 HQN HG7 HR2 HZ2 HL2 HLL HX8 HXI HNX HGW5
        go_upto_region 20 with (first
         | (refine wpList_load_mid rfl 32 _ rfl q 0 rfl C8 _ hq9 Tryz.underlying32 rfl (uh HIa) ?_;clear hq9)
         | (have hB9:=uh HB8;refine wpList_store_row rfl 32 _ _ rfl B C8.toArray rfl rfl _ _ hB9 (uh HIb) (uh HZb) (uh HEb) ?_;clear hB9;rw[← uh HW9]))
        (try simp only[Act.put])
        obtain ⟨rz,hrz⟩:∃ r,r=r2:=⟨_,rfl⟩
        have hp5:=uh HP5
        rw[← hrz] at hp5
        clear hrz HP5
        obtain ⟨CR,hCR⟩:∃ C,C=rsC k7 d7 v7 e7 rz:=⟨_,rfl⟩
        have HP6:=hide hp5
        have hbx:=hp5.bx
        rw[← hCR] at hbx
        have HRG:=hide (zan hbx)
        have HIR:=hide (show (Tryz.prog.info? 32).map (·.size)=some CR.length by rw[hCR];exact zas)
        obtain ⟨hf,hhf⟩:∃ n,n=rz.half:=⟨_,rfl⟩
        obtain ⟨us,hus⟩:∃ n,n=rz.used:=⟨_,rfl⟩
        obtain ⟨mv,hmv⟩:∃ n,n=rz.moves:=⟨_,rfl⟩
        obtain ⟨lf,hlf⟩:∃ n,n=hf - us:=⟨_,rfl⟩
        have bnd:=hp5.st.bnd
        have hag:=hp5.ag
        have hmv1:mv≤31:=by have:=hag.moves;omega
        have huh:us≤hf:=by have:=bnd.2.2.2.1;omega
        have hfb:hf≤2048:=by have h1:=bnd.1;have h2:=bnd.2.1;omega
        have c2:=hbx.cell 2
        have c3:=hbx.cell 3
        have c4:=hbx.cell 4
        rw[hCR] at c2 c3 c4
        unfold rsC at c2 c3 c4
        simp only[List.getElem?_cons_zero,List.getElem?_cons_succ] at c2 c3 c4
        rw[← hhf] at c2
        rw[← hus] at c3
        rw[← hmv] at c4
        have HSB:=hide (show IntKind.i64.wrap ((hf:Int) - (us:Int))=(lf:Int) by rw[IntKind.wrap_i64];omega)
        have HCV:=hide (show IntKind.u64.wrap (mv:Int)=(mv:Int) by rw[IntKind.wrap_u64];omega)
        have CLK:=hide (show ∀ V,W9.grownBy V none→Calls Tryz.prog 16 #[.pointer (some ⟨s,0,none⟩),.agg CR.toArray] V fun e w'=>e = .returned (.int .i64 1)∧V.grownBy w' none from fun V gV=>by rw[hCR];exact zgo (hp5.st.nn gV) (by have:=hag.V;omega) _ _ _ _ (hp5.rw.kept gV))
        have CLF:=hide (show ∀ V,W9.grownBy V none→Calls Tryz.prog 17 #[.pointer (some ⟨s,0,none⟩)] V fun e w'=>e = .returned (.int .i64 (lf:Int))∧V.grownBy w' none from fun V gV=>by rw[hlf,hhf,hus];exact zia (hp5.st.nn gV))
        have CMV:=hide (show ∀ V,W9.grownBy V none→Calls Tryz.prog 18 #[.pointer (some ⟨s,0,none⟩)] V fun e w'=>e = .returned (.int .u64 (mv:Int))∧w'=V from fun V gV=>by rw[hmv];exact zgn (hp5.st.nn gV) (by omega))
        have CST:=hide (show ∀ V,W9.grownBy V none→Calls Tryz.prog 19 #[.pointer (some ⟨s,0,none⟩)] V fun e w'=>e = .returned (.bool false)∧w'=V from fun V gV=>zib (hp5.st.nn gV))
        obtain ⟨HC2,HC3,HC4⟩:=zh3 c2 c3 c4
        clear hp5 hbx hhf hus hmv hlf bnd hag hmv1 huh hfb c2 c3 c4 hCR
        go_upto_region 20 with fail
        refine wp_region_noPanic ?_
        refine wp_region_held_drew (S:=fun V=>W9.grownBy V none) (by kernel_rfl) (zaa (zac W9 none)) (fun _ => ?_)
        refine tq 0 92 (.move (.tmp 9)) ((.pointer (some ⟨s,0,none⟩))) (zaa (zac W9 none)) ?_
        refine tz 1 93 (.load 32 (.tmp 11)) (.agg CR.toArray) (zaa (zac W9 none)) ?_ (y:=(yieldsIf_load_mid (by rfl) _ _ rfl _ _ rfl CR _ (fun V hV=>zak (uh HRG) hV (by simp)) Tryz.underlying32 rfl (uh HIR)))
        (try simp only[pq])
        refine rdq 2 (some 94) (.call { callee := .value (.func 16),args := #[(.tmp 92),(.tmp 93)],argTypes := #[27,32] }) (fun K9 hK9 => ?_)
        go_simp
        go_at_call 16
        refine ((uh CLK) _ (zaa (zac W9 none))).mono ?_
        rintro e wq1 ⟨rfl,gq1⟩
        have GQ1:=hide (tn (zaa (zac W9 none)) gq1)
        clear gq1
        go_wp2_with fail
        refine hK9.out _ _ (uh GQ1) (fun _ => ?_)
        clear hK9 K9
        refine tq 3 95 (.binOp .eql 3 (.tmp 94) (.const (.int .i64 0)) 3) ((.bool false)) (uh GQ1) ?_
        refine tq 4 96 (.move (.tmp 95)) ((.bool false)) (uh GQ1) ?_
        refine tq 5 97 (.move (.tmp 9)) ((.pointer (some ⟨s,0,none⟩))) (uh GQ1) ?_
        (try simp only[pq])
        refine tq 7 99 (.fieldAddr 32 (.tmp 11) 2) ((.pointer (some ⟨B,2,none⟩))) (uh GQ1) ?_
        refine tz 8 100 (.load 3 (.tmp 99)) ((.int .i64 (hf:Int))) (uh GQ1) ?_ (y:=(Or.inl ⟨by rfl,fun V hV=>by (have hv1:=hV.cell (uh HC2) (by simp);go_simp)⟩))
        refine tq 9 101 (.fieldAddr 32 (.tmp 11) 3) ((.pointer (some ⟨B,3,none⟩))) (uh GQ1) ?_
        refine tz 10 102 (.load 3 (.tmp 101)) ((.int .i64 (us:Int))) (uh GQ1) ?_ (y:=(Or.inl ⟨by rfl,fun V hV=>by (have hv1:=hV.cell (uh HC3) (by simp);go_simp)⟩))
        (try simp only[pq])
        refine tz 11 103 (.binOp .sub 3 (.tmp 100) (.tmp 102) 3) ((.int .i64 (lf:Int))) (uh GQ1) ?_ (y:=(Or.inl ⟨by rfl,fun V hV=>by (have hv0:=uh HSB;go_simp)⟩))
        (try simp only[pq])
        refine rdq 6 (some 98) (.call { callee := .value (.func 17),args := #[(.tmp 97)],argTypes := #[27] }) (fun K9 hK9 => ?_)
        go_simp
        go_at_call 17
        refine ((uh CLF) _ (uh GQ1)).mono ?_
        rintro e wq2 ⟨rfl,gq2⟩
        have GQ2:=hide (tn (uh GQ1) gq2)
        clear gq2
        go_wp2_with fail
        refine hK9.out _ _ (uh GQ2) (fun _ => ?_)
        clear hK9 K9
        refine tq 12 104 (.binOp .neq 3 (.tmp 98) (.tmp 103) 3) ((.bool false)) (uh GQ2) ?_
        refine tq 13 105 (.pick (.tmp 96) (.const (.bool true)) (.tmp 104)) ((.bool false)) (uh GQ2) ?_
        refine tq 14 106 (.move (.tmp 105)) ((.bool false)) (uh GQ2) ?_
        (try simp only[pq])
        refine tq 15 107 (.move (.tmp 9)) ((.pointer (some ⟨s,0,none⟩))) (uh GQ2) ?_
        refine tq 17 109 (.fieldAddr 32 (.tmp 11) 4) ((.pointer (some ⟨B,4,none⟩))) (uh GQ2) ?_
        refine tz 18 110 (.load 3 (.tmp 109)) ((.int .i64 (mv:Int))) (uh GQ2) ?_ (y:=(Or.inl ⟨by rfl,fun V hV=>by (have hv1:=hV.cell (uh HC4) (by simp);go_simp)⟩))
        refine tz 19 111 (.convert 3 45 (.tmp 110)) ((.int .u64 (mv:Int))) (uh GQ2) ?_ (y:=(Or.inl ⟨by rfl,fun V hV=>by (have hv0:=uh HCV;go_simp)⟩))
        (try simp only[pq])
        refine rdq 16 (some 108) (.call { callee := .value (.func 18),args := #[(.tmp 107)],argTypes := #[27] }) (fun K9 hK9 => ?_)
        go_simp
        go_at_call 18
        refine ((uh CMV) _ (uh GQ2)).mono ?_
        rintro e wq3 ⟨rfl,eq3⟩
        subst wq3
        go_wp2_with fail
        refine hK9.out _ _ (uh GQ2) (fun _ => ?_)
        clear hK9 K9
        refine tq 20 112 (.binOp .neq 45 (.tmp 108) (.tmp 111) 45) ((.bool false)) (uh GQ2) ?_
        refine tq 21 113 (.pick (.tmp 106) (.const (.bool true)) (.tmp 112)) ((.bool false)) (uh GQ2) ?_
        refine tq 22 114 (.move (.tmp 113)) ((.bool false)) (uh GQ2) ?_
        (try simp only[pq])
        refine tq 23 115 (.move (.tmp 9)) ((.pointer (some ⟨s,0,none⟩))) (uh GQ2) ?_
        (try simp only[pq])
        refine rdq 24 (some 116) (.call { callee := .value (.func 19),args := #[(.tmp 115)],argTypes := #[27] }) (fun K9 hK9 => ?_)
        go_simp
        go_at_call 19
        refine ((uh CST) _ (uh GQ2)).mono ?_
        rintro e wq4 ⟨rfl,eq4⟩
        subst wq4
        go_wp2_with fail
        refine hK9.out _ _ (uh GQ2) (fun _ => ?_)
        clear hK9 K9
        refine tq 25 117 (.pick (.tmp 114) (.const (.bool true)) (.tmp 116)) ((.bool false)) (uh GQ2) ?_
        (try simp only[pq])
        refine wpAnyH_done (by kernel_rfl) ?_ _
        refine NoPanic.normal ?_
        have HPE:=hide ((uh HP6).nn (uh GQ2))
        clear CLK CLF CMV CST HC2 HC3 HC4 HRG HIR HP6
        go_wp2
        go_roundw
        case rel=>exact ⟨k+1,s,rfl,by go_num,by omega,by omega,hide ⟨_,_,_,_,_,_,_,_,_,_,_,_,uh HPE⟩⟩
        case measure=>simp[intOf];omega
     | false =>
       have HP5:=hide ((uh HP).nn g5).step
       clear hbb g5 HP HXI HNX HQ1 HGW
       obtain ⟨rz,hrz⟩:∃ r,r=rs:=⟨_,rfl⟩
       have hp5:=uh HP5
       rw[← hrz] at hp5
       clear hrz HP5
       obtain ⟨CR,hCR⟩:∃ C,C=rsC ko kc vo vc rz:=⟨_,rfl⟩
       have HP6:=hide hp5
       have hbx:=hp5.bx
       rw[← hCR] at hbx
       have HRG:=hide (zan hbx)
       have HIR:=hide (show (Tryz.prog.info? 32).map (·.size)=some CR.length by rw[hCR];exact zas)
       obtain ⟨hf,hhf⟩:∃ n,n=rz.half:=⟨_,rfl⟩
       obtain ⟨us,hus⟩:∃ n,n=rz.used:=⟨_,rfl⟩
       obtain ⟨mv,hmv⟩:∃ n,n=rz.moves:=⟨_,rfl⟩
       obtain ⟨lf,hlf⟩:∃ n,n=hf - us:=⟨_,rfl⟩
       have bnd:=hp5.st.bnd
       have hag:=hp5.ag
       have hmv1:mv≤31:=by have:=hag.moves;omega
       have huh:us≤hf:=by have:=bnd.2.2.2.1;omega
       have hfb:hf≤2048:=by have h1:=bnd.1;have h2:=bnd.2.1;omega
       have c2:=hbx.cell 2
       have c3:=hbx.cell 3
       have c4:=hbx.cell 4
       rw[hCR] at c2 c3 c4
       unfold rsC at c2 c3 c4
       simp only[List.getElem?_cons_zero,List.getElem?_cons_succ] at c2 c3 c4
       rw[← hhf] at c2
       rw[← hus] at c3
       rw[← hmv] at c4
       have HSB:=hide (show IntKind.i64.wrap ((hf:Int) - (us:Int))=(lf:Int) by rw[IntKind.wrap_i64];omega)
       have HCV:=hide (show IntKind.u64.wrap (mv:Int)=(mv:Int) by rw[IntKind.wrap_u64];omega)
       have CLK:=hide (show ∀ V,w5.grownBy V none→Calls Tryz.prog 16 #[.pointer (some ⟨s,0,none⟩),.agg CR.toArray] V fun e w'=>e = .returned (.int .i64 1)∧V.grownBy w' none from fun V gV=>by rw[hCR];exact zgo (hp5.st.nn gV) (by have:=hag.V;omega) _ _ _ _ (hp5.rw.kept gV))
       have CLF:=hide (show ∀ V,w5.grownBy V none→Calls Tryz.prog 17 #[.pointer (some ⟨s,0,none⟩)] V fun e w'=>e = .returned (.int .i64 (lf:Int))∧V.grownBy w' none from fun V gV=>by rw[hlf,hhf,hus];exact zia (hp5.st.nn gV))
       have CMV:=hide (show ∀ V,w5.grownBy V none→Calls Tryz.prog 18 #[.pointer (some ⟨s,0,none⟩)] V fun e w'=>e = .returned (.int .u64 (mv:Int))∧w'=V from fun V gV=>by rw[hmv];exact zgn (hp5.st.nn gV) (by omega))
       have CST:=hide (show ∀ V,w5.grownBy V none→Calls Tryz.prog 19 #[.pointer (some ⟨s,0,none⟩)] V fun e w'=>e = .returned (.bool false)∧w'=V from fun V gV=>zib (hp5.st.nn gV))
       obtain ⟨HC2,HC3,HC4⟩:=zh3 c2 c3 c4
       clear hp5 hbx hhf hus hmv hlf bnd hag hmv1 huh hfb c2 c3 c4 hCR
       go_upto_region 20 with fail
       refine wp_region_noPanic ?_
       refine wp_region_held_drew (S:=fun V=>w5.grownBy V none) (by kernel_rfl) (zaa (zac w5 none)) (fun _ => ?_)
       refine tq 0 92 (.move (.tmp 9)) ((.pointer (some ⟨s,0,none⟩))) (zaa (zac w5 none)) ?_
       refine tz 1 93 (.load 32 (.tmp 11)) (.agg CR.toArray) (zaa (zac w5 none)) ?_ (y:=(yieldsIf_load_mid (by rfl) _ _ rfl _ _ rfl CR _ (fun V hV=>zak (uh HRG) hV (by simp)) Tryz.underlying32 rfl (uh HIR)))
       (try simp only[pq])
       refine rdq 2 (some 94) (.call { callee := .value (.func 16),args := #[(.tmp 92),(.tmp 93)],argTypes := #[27,32] }) (fun K9 hK9 => ?_)
       go_simp
       go_at_call 16
       refine ((uh CLK) _ (zaa (zac w5 none))).mono ?_
       rintro e wq1 ⟨rfl,gq1⟩
       have GQ1:=hide (tn (zaa (zac w5 none)) gq1)
       clear gq1
       go_wp2_with fail
       refine hK9.out _ _ (uh GQ1) (fun _ => ?_)
       clear hK9 K9
       refine tq 3 95 (.binOp .eql 3 (.tmp 94) (.const (.int .i64 0)) 3) ((.bool false)) (uh GQ1) ?_
       refine tq 4 96 (.move (.tmp 95)) ((.bool false)) (uh GQ1) ?_
       refine tq 5 97 (.move (.tmp 9)) ((.pointer (some ⟨s,0,none⟩))) (uh GQ1) ?_
       (try simp only[pq])
       refine tq 7 99 (.fieldAddr 32 (.tmp 11) 2) ((.pointer (some ⟨B,2,none⟩))) (uh GQ1) ?_
       refine tz 8 100 (.load 3 (.tmp 99)) ((.int .i64 (hf:Int))) (uh GQ1) ?_ (y:=(Or.inl ⟨by rfl,fun V hV=>by (have hv1:=hV.cell (uh HC2) (by simp);go_simp)⟩))
       refine tq 9 101 (.fieldAddr 32 (.tmp 11) 3) ((.pointer (some ⟨B,3,none⟩))) (uh GQ1) ?_
       refine tz 10 102 (.load 3 (.tmp 101)) ((.int .i64 (us:Int))) (uh GQ1) ?_ (y:=(Or.inl ⟨by rfl,fun V hV=>by (have hv1:=hV.cell (uh HC3) (by simp);go_simp)⟩))
       (try simp only[pq])
       refine tz 11 103 (.binOp .sub 3 (.tmp 100) (.tmp 102) 3) ((.int .i64 (lf:Int))) (uh GQ1) ?_ (y:=(Or.inl ⟨by rfl,fun V hV=>by (have hv0:=uh HSB;go_simp)⟩))
       (try simp only[pq])
       refine rdq 6 (some 98) (.call { callee := .value (.func 17),args := #[(.tmp 97)],argTypes := #[27] }) (fun K9 hK9 => ?_)
       go_simp
       go_at_call 17
       refine ((uh CLF) _ (uh GQ1)).mono ?_
       rintro e wq2 ⟨rfl,gq2⟩
       have GQ2:=hide (tn (uh GQ1) gq2)
       clear gq2
       go_wp2_with fail
       refine hK9.out _ _ (uh GQ2) (fun _ => ?_)
       clear hK9 K9
       refine tq 12 104 (.binOp .neq 3 (.tmp 98) (.tmp 103) 3) ((.bool false)) (uh GQ2) ?_
       refine tq 13 105 (.pick (.tmp 96) (.const (.bool true)) (.tmp 104)) ((.bool false)) (uh GQ2) ?_
       refine tq 14 106 (.move (.tmp 105)) ((.bool false)) (uh GQ2) ?_
       (try simp only[pq])
       refine tq 15 107 (.move (.tmp 9)) ((.pointer (some ⟨s,0,none⟩))) (uh GQ2) ?_
       refine tq 17 109 (.fieldAddr 32 (.tmp 11) 4) ((.pointer (some ⟨B,4,none⟩))) (uh GQ2) ?_
       refine tz 18 110 (.load 3 (.tmp 109)) ((.int .i64 (mv:Int))) (uh GQ2) ?_ (y:=(Or.inl ⟨by rfl,fun V hV=>by (have hv1:=hV.cell (uh HC4) (by simp);go_simp)⟩))
       refine tz 19 111 (.convert 3 45 (.tmp 110)) ((.int .u64 (mv:Int))) (uh GQ2) ?_ (y:=(Or.inl ⟨by rfl,fun V hV=>by (have hv0:=uh HCV;go_simp)⟩))
       (try simp only[pq])
       refine rdq 16 (some 108) (.call { callee := .value (.func 18),args := #[(.tmp 107)],argTypes := #[27] }) (fun K9 hK9 => ?_)
       go_simp
       go_at_call 18
       refine ((uh CMV) _ (uh GQ2)).mono ?_
       rintro e wq3 ⟨rfl,eq3⟩
       subst wq3
       go_wp2_with fail
       refine hK9.out _ _ (uh GQ2) (fun _ => ?_)
       clear hK9 K9
       refine tq 20 112 (.binOp .neq 45 (.tmp 108) (.tmp 111) 45) ((.bool false)) (uh GQ2) ?_
       refine tq 21 113 (.pick (.tmp 106) (.const (.bool true)) (.tmp 112)) ((.bool false)) (uh GQ2) ?_
       refine tq 22 114 (.move (.tmp 113)) ((.bool false)) (uh GQ2) ?_
       (try simp only[pq])
       refine tq 23 115 (.move (.tmp 9)) ((.pointer (some ⟨s,0,none⟩))) (uh GQ2) ?_
       (try simp only[pq])
       refine rdq 24 (some 116) (.call { callee := .value (.func 19),args := #[(.tmp 115)],argTypes := #[27] }) (fun K9 hK9 => ?_)
       go_simp
       go_at_call 19
       refine ((uh CST) _ (uh GQ2)).mono ?_
       rintro e wq4 ⟨rfl,eq4⟩
       subst wq4
       go_wp2_with fail
       refine hK9.out _ _ (uh GQ2) (fun _ => ?_)
       clear hK9 K9
       refine tq 25 117 (.pick (.tmp 114) (.const (.bool true)) (.tmp 116)) ((.bool false)) (uh GQ2) ?_
       (try simp only[pq])
       refine wpAnyH_done (by kernel_rfl) ?_ _
       refine NoPanic.normal ?_
       have HPE:=hide ((uh HP6).nn (uh GQ2))
       clear CLK CLF CMV CST HC2 HC3 HC4 HRG HIR HP6
       go_wp2
       go_roundw
       case rel=>exact ⟨k+1,s,rfl,by go_num,by omega,by omega,hide ⟨_,_,_,_,_,_,_,_,_,_,_,_,uh HPE⟩⟩
       case measure=>simp[intOf];omega
   ·have h30i:¬ (k:Int)<30:=by omega
    have hp:=uh HP
    have hvl:rs.V.length≤24000:=by have:=hp.ag.V;omega
    have ck:=zic hp.st pl (by omega)
    obtain ⟨ks,hks⟩:∃ l,l=zca rs.V pl:=⟨_,rfl⟩
    obtain ⟨nk,hnk⟩:∃ n,n=ks.length:=⟨_,rfl⟩
    obtain ⟨nv,hnv⟩:∃ n,n=rs.V.length:=⟨_,rfl⟩
    rw[← hks,← hnk,← uh HPL] at ck
    have c0:=hp.bx.cell 0
    unfold rsC at c0
    simp only[List.getElem?_cons_zero] at c0
    rw[← hnv] at c0
    have hnv2:nv≤24000:=by omega
    have hgw:=hp.st.dw.gb
    obtain ⟨HGW,HC0⟩:=zh2 hgw c0
    obtain ⟨KL,hKL⟩:∃ l,l=zao rs.V:=⟨_,rfl⟩
    have hrk:=hp.rw.keys
    rw[zcg,← hKL] at hrk
    have hkln:nv=KL.length:=by rw[hKL,hnv];unfold zao;rw[List.length_map]
    obtain ⟨HRK,HKL,HKN,HKS,HNK,HNV⟩:=zh6 hrk hKL hkln hks hnk hnv
    clear hp hvl hks hnk hnv c0 hgw HP hrk hKL hkln
    go_wp2_with (go_at_call 20;fail)
    refine ck.mono ?_
    rintro e w5 ⟨a5,c5,rfl,hcel,g5⟩
    have HCL:=hide hcel
    have c05:=g5.cell (uh HC0) (by simp)
    have HC05:=hide c05
    have HRK5:=hide ((uh HRK).kept g5)
    have HG5:=hide (tn (uh HGW) g5)
    clear ck hcel g5 HRK HC0
    go_wp2
    clear c05
    go_loopw [18,19] (fun av iv wr=>∃ (q t:Nat),av = .int .i64 t∧iv = .int .i64 q∧q≤nv∧t≤q∧Hid (t=(KL.take q |>.filter fun z=>Lib.hasPrefix z pl).length∧w5.grownBy wr none)) (fun _ i _=>nv - (intOf i).toNat)
    case atStart=>exact ⟨0,0,rfl,rfl,Nat.zero_le _,Nat.zero_le _,hide ⟨rfl,zac _ _⟩⟩
    case round =>
     obtain ⟨q,t,rfl,rfl,hq,ht,HI⟩:=hrel
     have c0r:=(uh HI).2.cell (uh HC05) (by simp)
     by_cases hqn:q<nv
     ·have hqi:(q:Int)<(nv:Int):=by omega
      have hqw:IntKind.i64.wrap ((q:Int)+1)=(q:Int)+1:=by rw[IntKind.wrap_i64];omega
      have htw:IntKind.i64.wrap ((t:Int)+1)=(t:Int)+1:=by rw[IntKind.wrap_i64];omega
      have hqV:q<KL.length:=by rw[← uh HKN];exact hqn
      obtain ⟨ky,hky⟩:∃ z,z=KL[q]:=⟨_,rfl⟩
      obtain ⟨TY,hTY⟩:∃ T,T=str ky:=⟨_,rfl⟩
      obtain ⟨kb,kz,hko,hk⟩:=(uh HRK5).at q (by rw[List.length_map];exact hqV)
      have hk2:w5.cell? ⟨kb,kz+q,none⟩=some (.string TY):=by rw[hk,List.getElem_map,hTY,hky];rfl
      have hk3:=(uh HI).2.cell hk2 (by simp)
      obtain ⟨ly,hly⟩:∃ n,n=ky.length:=⟨_,rfl⟩
      obtain ⟨lp,hlp⟩:∃ n,n=pl.length:=⟨_,rfl⟩
      have HLY:=hide (show TY.size=ly by rw[hTY,zaq,hly])
      have HLP:=hide (show pf.size=lp by rw[uh HPL,zaq,hlp])
      have hpre:=zo3 ky pl
      rw[← hly,← hlp] at hpre
      obtain ⟨HC0R,HK3,HTY,HKY⟩:=zh4 c0r hk3 hTY hky
      clear hk hk2 hk3 hky hTY
      subst hko
      by_cases hlen:lp≤ly
      ·have HLE:=hide (And.intro hlen (show (lp:Int)≤(ly:Int) by omega))
       obtain ⟨TP,hTP⟩:∃ T,T=str (ky.take lp):=⟨_,rfl⟩
       have HSL:=hide (show ∀ V,(Instr.slice 9 (.string TY) none (some (.int .i64 (lp:Int))) none).run Tryz.prog V = .ok (.string TP) V from fun V=>by rw[uh HTY,hTP];exact zfi ky lp (by omega) V)
       have e1:TP.toList=ky.take lp:=by rw[hTP,zbt]
       have e2:pf.toList=pl:=by rw[uh HPL,zbt]
       by_cases heq:ky.take lp=pl
       ·have HEQ:=hide (show TP.toList=pf.toList by rw[e1,e2];exact heq)
        have hyes:Lib.hasPrefix ky pl=true:=by rw[hpre,decide_eq_true hlen,decide_eq_true heq];rfl
        have hys:Lib.hasPrefix (KL[q]) pl=true:=by rw[← uh HKY];exact hyes
        obtain ⟨htl,hte⟩:=zo2 (fun z=>Lib.hasPrefix z pl) KL q hqV hys
        have hkf:zca rs.V pl=KL.filter fun z=>Lib.hasPrefix z pl:=by rw[uh HKL];rfl
        have hst:=zlg (fun z=>Lib.hasPrefix z pl) KL q hqV hys
        have htn:t<ks.length:=by rw[uh HKS,hkf,(uh HI).1];exact htl
        have hkt:ks[t]=ky:=by
         have h9:ks[t]? = some ky:=by rw[uh HKS,hkf,(uh HI).1,List.getElem?_eq_getElem htl,hte,uh HKY]
         rw[List.getElem?_eq_getElem htn] at h9
         exact Option.some.inj h9
        obtain ⟨b5,o5,ha5,hc5⟩:=(uh HCL).at t (by rw[List.length_map];exact htn)
        have hsv:(ks.map stv)[t]'(by rw[List.length_map];exact htn) = .string TY:=by rw[List.getElem_map,hkt,uh HTY];rfl
        rw[hsv] at hc5
        have HC5:=hide ((uh HI).2.cell hc5 (by simp))
        have htk:t<nk:=by rw[uh HNK];exact htn
        have HTK:=hide (And.intro (show ¬ nk≤t by omega) (show ¬ (nk:Int)≤(t:Int) by omega))
        have HST:=hide (show t+1=(KL.take (q+1) |>.filter fun z=>Lib.hasPrefix z pl).length by rw[hst,← (uh HI).1])
        have HU:=hide (uh HI).2
        clear hTP e1 e2 heq hyes hys htl hte hkf hst htn hkt hc5 hsv htk hpre hlen hly hlp
        subst ha5
        go_upto_region 27 with fail
        refine zai fun O hO => ?_
        refine zab (by rw[hO];kernel_rfl) (.pointer (some ⟨B,0,none⟩)) (fun K9 hK9=>by go_simp;exact hK9) ?_
        (try simp only[pq])
        refine zab (by rw[hO];kernel_rfl) (.slice (some ⟨kb,kz,none⟩) nv kc) (fun K9 hK9=>by have hv1:=uh HC0R;go_simp;exact hK9) ?_
        (try simp only[pq])
        refine zab (by rw[hO];kernel_rfl) (.int .i64 (q:Int)) (fun K9 hK9=>by go_simp;exact hK9) ?_
        (try simp only[pq])
        refine zab (by rw[hO];kernel_rfl) (.pointer (some ⟨kb,kz+q,none⟩)) (fun K9 hK9=>by go_simp;exact hK9) ?_
        (try simp only[pq])
        refine zab (by rw[hO];kernel_rfl) (.string TY) (fun K9 hK9=>by have hv1:=uh HK3;go_simp;exact hK9) ?_
        (try simp only[pq])
        refine zab (by rw[hO];kernel_rfl) (.int .i64 (ly:Int)) (fun K9 hK9=>by have hv1:=uh HLY;go_simp;exact hK9) ?_
        (try simp only[pq])
        refine zab (by rw[hO];kernel_rfl) (.string pf) (fun K9 hK9=>by go_simp;exact hK9) ?_
        (try simp only[pq])
        refine zab (by rw[hO];kernel_rfl) (.int .i64 (lp:Int)) (fun K9 hK9=>by have hv1:=uh HLP;go_simp;exact hK9) ?_
        (try simp only[pq])
        refine zab (by rw[hO];kernel_rfl) (.bool true) (fun K9 hK9=>by obtain ⟨hv1,hv2⟩:=uh HLE;go_simp;exact hK9) ?_
        (try simp only[pq])
        refine zab (by rw[hO];kernel_rfl) (.bool true) (fun K9 hK9=>by go_simp;exact hK9) ?_
        (try simp only[pq])
        refine zab (by rw[hO];kernel_rfl) (.pointer (some ⟨B,0,none⟩)) (fun K9 hK9=>by go_simp;exact hK9) ?_
        (try simp only[pq])
        refine zab (by rw[hO];kernel_rfl) (.slice (some ⟨kb,kz,none⟩) nv kc) (fun K9 hK9=>by have hv1:=uh HC0R;go_simp;exact hK9) ?_
        (try simp only[pq])
        refine zab (by rw[hO];kernel_rfl) (.int .i64 (q:Int)) (fun K9 hK9=>by go_simp;exact hK9) ?_
        (try simp only[pq])
        refine zab (by rw[hO];kernel_rfl) (.pointer (some ⟨kb,kz+q,none⟩)) (fun K9 hK9=>by go_simp;exact hK9) ?_
        (try simp only[pq])
        refine zab (by rw[hO];kernel_rfl) (.string TY) (fun K9 hK9=>by have hv1:=uh HK3;go_simp;exact hK9) ?_
        (try simp only[pq])
        refine zab (by rw[hO];kernel_rfl) (.string pf) (fun K9 hK9=>by go_simp;exact hK9) ?_
        (try simp only[pq])
        refine zab (by rw[hO];kernel_rfl) (.int .i64 (lp:Int)) (fun K9 hK9=>by have hv1:=uh HLP;go_simp;exact hK9) ?_
        (try simp only[pq])
        refine zab (by rw[hO];kernel_rfl) (.string TP) (fun K9 hK9=>by have hv1:=uh HSL;go_simp;exact hK9) ?_
        (try simp only[pq])
        refine zab (by rw[hO];kernel_rfl) (.string pf) (fun K9 hK9=>by go_simp;exact hK9) ?_
        (try simp only[pq])
        refine zab (by rw[hO];kernel_rfl) (.bool true) (fun K9 hK9=>by have hv1:=uh HEQ;go_simp;exact hK9) ?_
        (try simp only[pq])
        refine zab (by rw[hO];kernel_rfl) (.bool true) (fun K9 hK9=>by go_simp;exact hK9) ?_
        (try simp only[pq])
        go_upto_region 28 with fail
        refine wp_region_noPanic ?_
        refine wp_region_held_drew (S:=fun V=>wr.grownBy V none) (by kernel_rfl) (zaa (zac wr none)) (fun _ => ?_)
        refine tq 0 149 (.move (.tmp 18)) ((.int .i64 (t:Int))) (zaa (zac wr none)) ?_
        refine tq 1 150 (.move (.tmp 17)) ((.slice (some ⟨b5,o5,none⟩) nk c5)) (zaa (zac wr none)) ?_
        refine tq 2 151 (.call { callee := .builtin .len,args := #[(.tmp 150)],argTypes := #[30] }) ((.int .i64 (nk:Int))) (zaa (zac wr none)) ?_
        refine tz 3 152 (.binOp .geq 3 (.tmp 149) (.tmp 151) 3) ((.bool false)) (zaa (zac wr none)) ?_ (y:=(Or.inl ⟨by rfl,fun V hV=>by (obtain ⟨hv1,hv2⟩:=uh HTK;go_simp)⟩))
        (try simp only[pq])
        refine tq 4 153 (.move (.tmp 152)) ((.bool false)) (zaa (zac wr none)) ?_
        refine tq 5 154 (.move (.tmp 17)) ((.slice (some ⟨b5,o5,none⟩) nk c5)) (zaa (zac wr none)) ?_
        refine tq 6 155 (.move (.tmp 18)) ((.int .i64 (t:Int))) (zaa (zac wr none)) ?_
        refine tz 7 156 (.indexAddr 30 (.tmp 154) (.tmp 155)) ((.pointer (some ⟨b5,o5+t,none⟩))) (zaa (zac wr none)) ?_ (y:=(Or.inl ⟨by rfl,fun V hV=>by (obtain ⟨hv1,hv2⟩:=uh HTK;go_simp)⟩))
        (try simp only[pq])
        refine tz 8 157 (.load 9 (.tmp 156)) ((.string TY)) (zaa (zac wr none)) ?_ (y:=(Or.inl ⟨by rfl,fun V hV=>by (have hv1:=hV.cell (uh HC5) (by simp);go_simp)⟩))
        refine tq 9 158 (.fieldAddr 32 (.tmp 11) 0) ((.pointer (some ⟨B,0,none⟩))) (zaa (zac wr none)) ?_
        refine tz 10 159 (.load 30 (.tmp 158)) ((.slice (some ⟨kb,kz,none⟩) nv kc)) (zaa (zac wr none)) ?_ (y:=(Or.inl ⟨by rfl,fun V hV=>by (have hv1:=hV.cell (uh HC0R) (by simp);go_simp)⟩))
        refine tq 11 160 (.move (.tmp 19)) ((.int .i64 (q:Int))) (zaa (zac wr none)) ?_
        (try simp only[pq])
        refine tq 12 161 (.indexAddr 30 (.tmp 159) (.tmp 160)) ((.pointer (some ⟨kb,kz+q,none⟩))) (zaa (zac wr none)) ?_
        refine tz 13 162 (.load 9 (.tmp 161)) ((.string TY)) (zaa (zac wr none)) ?_ (y:=(Or.inl ⟨by rfl,fun V hV=>by (have hv1:=hV.cell (uh HK3) (by simp);go_simp)⟩))
        refine tq 14 163 (.binOp .neq 9 (.tmp 157) (.tmp 162) 9) ((.bool false)) (zaa (zac wr none)) ?_
        refine tq 15 164 (.pick (.tmp 153) (.const (.bool true)) (.tmp 163)) ((.bool false)) (zaa (zac wr none)) ?_
        (try simp only[pq])
        refine wpAnyH_done (by kernel_rfl) ?_ _
        refine NoPanic.normal ?_
        go_wp2
        go_roundw
        case rel=>exact ⟨q+1,t+1,by go_num,by go_num,by omega,by omega,hide ⟨uh HST,zaa (uh HU)⟩⟩
        case measure=>simp[intOf];omega
       ·have heq2:¬ TP.toList=pf.toList:=by rw[e1,e2];exact heq
        have HEQ:=hide (And.intro heq2 (beq_eq_false_iff_ne.2 heq2))
        have hno:Lib.hasPrefix ky pl=false:=by rw[hpre,decide_eq_false heq,Bool.and_false]
        have HST:=hide (show t=(KL.take (q+1) |>.filter fun z=>Lib.hasPrefix z pl).length by rw[zid (fun z=>Lib.hasPrefix z pl) KL q hqV (by rw[← uh HKY];exact hno)];exact (uh HI).1)
        have HU:=hide (uh HI).2
        clear hTP e1 e2 heq heq2 hno hpre hlen hly hlp
        go_upto_region 27 with fail
        refine zai fun O hO => ?_
        refine zab (by rw[hO];kernel_rfl) (.pointer (some ⟨B,0,none⟩)) (fun K9 hK9=>by go_simp;exact hK9) ?_
        (try simp only[pq])
        refine zab (by rw[hO];kernel_rfl) (.slice (some ⟨kb,kz,none⟩) nv kc) (fun K9 hK9=>by have hv1:=uh HC0R;go_simp;exact hK9) ?_
        (try simp only[pq])
        refine zab (by rw[hO];kernel_rfl) (.int .i64 (q:Int)) (fun K9 hK9=>by go_simp;exact hK9) ?_
        (try simp only[pq])
        refine zab (by rw[hO];kernel_rfl) (.pointer (some ⟨kb,kz+q,none⟩)) (fun K9 hK9=>by go_simp;exact hK9) ?_
        (try simp only[pq])
        refine zab (by rw[hO];kernel_rfl) (.string TY) (fun K9 hK9=>by have hv1:=uh HK3;go_simp;exact hK9) ?_
        (try simp only[pq])
        refine zab (by rw[hO];kernel_rfl) (.int .i64 (ly:Int)) (fun K9 hK9=>by have hv1:=uh HLY;go_simp;exact hK9) ?_
        (try simp only[pq])
        refine zab (by rw[hO];kernel_rfl) (.string pf) (fun K9 hK9=>by go_simp;exact hK9) ?_
        (try simp only[pq])
        refine zab (by rw[hO];kernel_rfl) (.int .i64 (lp:Int)) (fun K9 hK9=>by have hv1:=uh HLP;go_simp;exact hK9) ?_
        (try simp only[pq])
        refine zab (by rw[hO];kernel_rfl) (.bool true) (fun K9 hK9=>by obtain ⟨hv1,hv2⟩:=uh HLE;go_simp;exact hK9) ?_
        (try simp only[pq])
        refine zab (by rw[hO];kernel_rfl) (.bool true) (fun K9 hK9=>by go_simp;exact hK9) ?_
        (try simp only[pq])
        refine zab (by rw[hO];kernel_rfl) (.pointer (some ⟨B,0,none⟩)) (fun K9 hK9=>by go_simp;exact hK9) ?_
        (try simp only[pq])
        refine zab (by rw[hO];kernel_rfl) (.slice (some ⟨kb,kz,none⟩) nv kc) (fun K9 hK9=>by have hv1:=uh HC0R;go_simp;exact hK9) ?_
        (try simp only[pq])
        refine zab (by rw[hO];kernel_rfl) (.int .i64 (q:Int)) (fun K9 hK9=>by go_simp;exact hK9) ?_
        (try simp only[pq])
        refine zab (by rw[hO];kernel_rfl) (.pointer (some ⟨kb,kz+q,none⟩)) (fun K9 hK9=>by go_simp;exact hK9) ?_
        (try simp only[pq])
        refine zab (by rw[hO];kernel_rfl) (.string TY) (fun K9 hK9=>by have hv1:=uh HK3;go_simp;exact hK9) ?_
        (try simp only[pq])
        refine zab (by rw[hO];kernel_rfl) (.string pf) (fun K9 hK9=>by go_simp;exact hK9) ?_
        (try simp only[pq])
        refine zab (by rw[hO];kernel_rfl) (.int .i64 (lp:Int)) (fun K9 hK9=>by have hv1:=uh HLP;go_simp;exact hK9) ?_
        (try simp only[pq])
        refine zab (by rw[hO];kernel_rfl) (.string TP) (fun K9 hK9=>by have hv1:=uh HSL;go_simp;exact hK9) ?_
        (try simp only[pq])
        refine zab (by rw[hO];kernel_rfl) (.string pf) (fun K9 hK9=>by go_simp;exact hK9) ?_
        (try simp only[pq])
        refine zab (by rw[hO];kernel_rfl) (.bool false) (fun K9 hK9=>by obtain ⟨hv1,hv2⟩:=uh HEQ;go_simp;exact hK9) ?_
        (try simp only[pq])
        refine zab (by rw[hO];kernel_rfl) (.bool false) (fun K9 hK9=>by go_simp;exact hK9) ?_
        (try simp only[pq])
        go_wp2
        go_roundw
        case rel=>exact ⟨q+1,t,rfl,by go_num,by omega,by omega,hide ⟨uh HST,uh HU⟩⟩
        case measure=>simp[intOf];omega
      ·have HLE:=hide (And.intro hlen (show ¬ (lp:Int)≤(ly:Int) by omega))
       have hno:Lib.hasPrefix ky pl=false:=by rw[hpre,decide_eq_false hlen,Bool.false_and]
       have HST:=hide (show t=(KL.take (q+1) |>.filter fun z=>Lib.hasPrefix z pl).length by rw[zid (fun z=>Lib.hasPrefix z pl) KL q hqV (by rw[← uh HKY];exact hno)];exact (uh HI).1)
       have HU:=hide (uh HI).2
       clear hno hpre hlen hly hlp
       go_upto_region 27 with fail
       refine zai fun O hO => ?_
       refine zab (by rw[hO];kernel_rfl) (.pointer (some ⟨B,0,none⟩)) (fun K9 hK9=>by go_simp;exact hK9) ?_
       (try simp only[pq])
       refine zab (by rw[hO];kernel_rfl) (.slice (some ⟨kb,kz,none⟩) nv kc) (fun K9 hK9=>by have hv1:=uh HC0R;go_simp;exact hK9) ?_
       (try simp only[pq])
       refine zab (by rw[hO];kernel_rfl) (.int .i64 (q:Int)) (fun K9 hK9=>by go_simp;exact hK9) ?_
       (try simp only[pq])
       refine zab (by rw[hO];kernel_rfl) (.pointer (some ⟨kb,kz+q,none⟩)) (fun K9 hK9=>by go_simp;exact hK9) ?_
       (try simp only[pq])
       refine zab (by rw[hO];kernel_rfl) (.string TY) (fun K9 hK9=>by have hv1:=uh HK3;go_simp;exact hK9) ?_
       (try simp only[pq])
       refine zab (by rw[hO];kernel_rfl) (.int .i64 (ly:Int)) (fun K9 hK9=>by have hv1:=uh HLY;go_simp;exact hK9) ?_
       (try simp only[pq])
       refine zab (by rw[hO];kernel_rfl) (.string pf) (fun K9 hK9=>by go_simp;exact hK9) ?_
       (try simp only[pq])
       refine zab (by rw[hO];kernel_rfl) (.int .i64 (lp:Int)) (fun K9 hK9=>by have hv1:=uh HLP;go_simp;exact hK9) ?_
       (try simp only[pq])
       refine zab (by rw[hO];kernel_rfl) (.bool false) (fun K9 hK9=>by obtain ⟨hv1,hv2⟩:=uh HLE;go_simp;exact hK9) ?_
       (try simp only[pq])
       refine zab (by rw[hO];kernel_rfl) (.bool false) (fun K9 hK9=>by go_simp;exact hK9) ?_
       (try simp only[pq])
       refine zad (by rw[hO];kernel_rfl) ?_
       (try simp only[pq])
       refine zad (by rw[hO];kernel_rfl) ?_
       (try simp only[pq])
       refine zad (by rw[hO];kernel_rfl) ?_
       (try simp only[pq])
       refine zad (by rw[hO];kernel_rfl) ?_
       (try simp only[pq])
       refine zad (by rw[hO];kernel_rfl) ?_
       (try simp only[pq])
       refine zad (by rw[hO];kernel_rfl) ?_
       (try simp only[pq])
       refine zad (by rw[hO];kernel_rfl) ?_
       (try simp only[pq])
       refine zad (by rw[hO];kernel_rfl) ?_
       (try simp only[pq])
       refine zad (by rw[hO];kernel_rfl) ?_
       (try simp only[pq])
       refine zad (by rw[hO];kernel_rfl) ?_
       (try simp only[pq])
       refine zab (by rw[hO];kernel_rfl) (.bool false) (fun K9 hK9=>by go_simp;exact hK9) ?_
       (try simp only[pq])
       go_wp2
       go_roundw
       case rel=>exact ⟨q+1,t,rfl,by go_num,by omega,by omega,hide ⟨uh HST,uh HU⟩⟩
       case measure=>simp[intOf];omega
     ·have hqi:¬ (q:Int)<(nv:Int):=by omega
      have htk:t=nk:=by
       have h9:=(uh HI).1
       rw[List.take_of_length_le (by have:=uh HKN;omega)] at h9
       rw[h9,uh HNK,uh HKS,uh HKL]
       rfl
      have hgf:=tn (uh HG5) (uh HI).2
      have c1:=zo0 _ ((uh HT).kept0 hgf)
      have HGF:=hide hgf
      subst htk
      clear hgf
      go_upto_region 31 with fail
      refine zai fun O hO => ?_
      refine zab (by rw[hO];kernel_rfl) (.int .i64 (t:Int)) (fun K9 hK9=>by go_simp;exact hK9) ?_
      (try simp only[pq])
      refine zab (by rw[hO];kernel_rfl) (.slice a5 t c5) (fun K9 hK9=>by go_simp;exact hK9) ?_
      (try simp only[pq])
      refine zab (by rw[hO];kernel_rfl) (.int .i64 (t:Int)) (fun K9 hK9=>by go_simp;exact hK9) ?_
      (try simp only[pq])
      refine zab (by rw[hO];kernel_rfl) (.bool true) (fun K9 hK9=>by go_simp;exact hK9) ?_
      (try simp only[pq])
      refine zab (by rw[hO];kernel_rfl) (.bool true) (fun K9 hK9=>by go_simp;exact hK9) ?_
      (try simp only[pq])
      refine zat (by rw[hO];kernel_rfl) fun K9 hK9 => ?_
      go_simp
      go_at_call 21
      refine (c1).mono ?_
      rintro e w5 ⟨rfl,g5⟩
      have HG5:=hide (tn (uh HGF) g5)
      clear g5
      refine hK9 _ _ ?_
      clear hK9 K9
      (try simp only[pq])
      refine zab (by rw[hO];kernel_rfl) (.bool true) (fun K9 hK9=>by go_simp;exact hK9) ?_
      (try simp only[pq])
      refine zab (by rw[hO];kernel_rfl) (.bool true) (fun K9 hK9=>by go_simp;exact hK9) ?_
      (try simp only[pq])
      go_wp2
      go_ret
      exact ⟨rfl,uh HG5⟩
  ·have hki:¬ (k:Int)<(nl:Int):=by omega
   have hkd:decide ((k:Int)<(nl:Int))=false:=decide_eq_false hki
   have hp:=uh HP
   have hvl:rs.V.length≤24000:=by have:=hp.ag.V;omega
   have ck:=zic hp.st pl (by omega)
   obtain ⟨ks,hks⟩:∃ l,l=zca rs.V pl:=⟨_,rfl⟩
   obtain ⟨nk,hnk⟩:∃ n,n=ks.length:=⟨_,rfl⟩
   obtain ⟨nv,hnv⟩:∃ n,n=rs.V.length:=⟨_,rfl⟩
   rw[← hks,← hnk,← uh HPL] at ck
   have c0:=hp.bx.cell 0
   unfold rsC at c0
   simp only[List.getElem?_cons_zero] at c0
   rw[← hnv] at c0
   have hnv2:nv≤24000:=by omega
   have hgw:=hp.st.dw.gb
   obtain ⟨HGW,HC0⟩:=zh2 hgw c0
   obtain ⟨KL,hKL⟩:∃ l,l=zao rs.V:=⟨_,rfl⟩
   have hrk:=hp.rw.keys
   rw[zcg,← hKL] at hrk
   have hkln:nv=KL.length:=by rw[hKL,hnv];unfold zao;rw[List.length_map]
   obtain ⟨HRK,HKL,HKN,HKS,HNK,HNV⟩:=zh6 hrk hKL hkln hks hnk hnv
   clear hp hvl hks hnk hnv c0 hgw HP hrk hKL hkln
   go_wp2_with (go_at_call 20;fail)
   refine ck.mono ?_
   rintro e w5 ⟨a5,c5,rfl,hcel,g5⟩
   have HCL:=hide hcel
   have c05:=g5.cell (uh HC0) (by simp)
   have HC05:=hide c05
   have HRK5:=hide ((uh HRK).kept g5)
   have HG5:=hide (tn (uh HGW) g5)
   clear ck hcel g5 HRK HC0
   go_wp2
   clear c05
   go_loopw [18,19] (fun av iv wr=>∃ (q t:Nat),av = .int .i64 t∧iv = .int .i64 q∧q≤nv∧t≤q∧Hid (t=(KL.take q |>.filter fun z=>Lib.hasPrefix z pl).length∧w5.grownBy wr none)) (fun _ i _=>nv - (intOf i).toNat)
   case atStart=>exact ⟨0,0,rfl,rfl,Nat.zero_le _,Nat.zero_le _,hide ⟨rfl,zac _ _⟩⟩
   case round =>
    obtain ⟨q,t,rfl,rfl,hq,ht,HI⟩:=hrel
    have c0r:=(uh HI).2.cell (uh HC05) (by simp)
    by_cases hqn:q<nv
    ·have hqi:(q:Int)<(nv:Int):=by omega
     have hqw:IntKind.i64.wrap ((q:Int)+1)=(q:Int)+1:=by rw[IntKind.wrap_i64];omega
     have htw:IntKind.i64.wrap ((t:Int)+1)=(t:Int)+1:=by rw[IntKind.wrap_i64];omega
     have hqV:q<KL.length:=by rw[← uh HKN];exact hqn
     obtain ⟨ky,hky⟩:∃ z,z=KL[q]:=⟨_,rfl⟩
     obtain ⟨TY,hTY⟩:∃ T,T=str ky:=⟨_,rfl⟩
     obtain ⟨kb,kz,hko,hk⟩:=(uh HRK5).at q (by rw[List.length_map];exact hqV)
     have hk2:w5.cell? ⟨kb,kz+q,none⟩=some (.string TY):=by rw[hk,List.getElem_map,hTY,hky];rfl
     have hk3:=(uh HI).2.cell hk2 (by simp)
     obtain ⟨ly,hly⟩:∃ n,n=ky.length:=⟨_,rfl⟩
     obtain ⟨lp,hlp⟩:∃ n,n=pl.length:=⟨_,rfl⟩
     have HLY:=hide (show TY.size=ly by rw[hTY,zaq,hly])
     have HLP:=hide (show pf.size=lp by rw[uh HPL,zaq,hlp])
     have hpre:=zo3 ky pl
     rw[← hly,← hlp] at hpre
     obtain ⟨HC0R,HK3,HTY,HKY⟩:=zh4 c0r hk3 hTY hky
     clear hk hk2 hk3 hky hTY
     subst hko
     by_cases hlen:lp≤ly
     ·have HLE:=hide (And.intro hlen (show (lp:Int)≤(ly:Int) by omega))
      obtain ⟨TP,hTP⟩:∃ T,T=str (ky.take lp):=⟨_,rfl⟩
      have HSL:=hide (show ∀ V,(Instr.slice 9 (.string TY) none (some (.int .i64 (lp:Int))) none).run Tryz.prog V = .ok (.string TP) V from fun V=>by rw[uh HTY,hTP];exact zfi ky lp (by omega) V)
      have e1:TP.toList=ky.take lp:=by rw[hTP,zbt]
      have e2:pf.toList=pl:=by rw[uh HPL,zbt]
      by_cases heq:ky.take lp=pl
      ·have HEQ:=hide (show TP.toList=pf.toList by rw[e1,e2];exact heq)
       have hyes:Lib.hasPrefix ky pl=true:=by rw[hpre,decide_eq_true hlen,decide_eq_true heq];rfl
       have hys:Lib.hasPrefix (KL[q]) pl=true:=by rw[← uh HKY];exact hyes
       obtain ⟨htl,hte⟩:=zo2 (fun z=>Lib.hasPrefix z pl) KL q hqV hys
       have hkf:zca rs.V pl=KL.filter fun z=>Lib.hasPrefix z pl:=by rw[uh HKL];rfl
       have hst:=zlg (fun z=>Lib.hasPrefix z pl) KL q hqV hys
       have htn:t<ks.length:=by rw[uh HKS,hkf,(uh HI).1];exact htl
       have hkt:ks[t]=ky:=by
        have h9:ks[t]? = some ky:=by rw[uh HKS,hkf,(uh HI).1,List.getElem?_eq_getElem htl,hte,uh HKY]
        rw[List.getElem?_eq_getElem htn] at h9
        exact Option.some.inj h9
       obtain ⟨b5,o5,ha5,hc5⟩:=(uh HCL).at t (by rw[List.length_map];exact htn)
       have hsv:(ks.map stv)[t]'(by rw[List.length_map];exact htn) = .string TY:=by rw[List.getElem_map,hkt,uh HTY];rfl
       rw[hsv] at hc5
       have HC5:=hide ((uh HI).2.cell hc5 (by simp))
       have htk:t<nk:=by rw[uh HNK];exact htn
       have HTK:=hide (And.intro (show ¬ nk≤t by omega) (show ¬ (nk:Int)≤(t:Int) by omega))
       have HST:=hide (show t+1=(KL.take (q+1) |>.filter fun z=>Lib.hasPrefix z pl).length by rw[hst,← (uh HI).1])
       have HU:=hide (uh HI).2
       clear hTP e1 e2 heq hyes hys htl hte hkf hst htn hkt hc5 hsv htk hpre hlen hly hlp
       subst ha5
       go_upto_region 27 with fail
       refine zai fun O hO => ?_
       refine zab (by rw[hO];kernel_rfl) (.pointer (some ⟨B,0,none⟩)) (fun K9 hK9=>by go_simp;exact hK9) ?_
       (try simp only[pq])
       refine zab (by rw[hO];kernel_rfl) (.slice (some ⟨kb,kz,none⟩) nv kc) (fun K9 hK9=>by have hv1:=uh HC0R;go_simp;exact hK9) ?_
       (try simp only[pq])
       refine zab (by rw[hO];kernel_rfl) (.int .i64 (q:Int)) (fun K9 hK9=>by go_simp;exact hK9) ?_
       (try simp only[pq])
       refine zab (by rw[hO];kernel_rfl) (.pointer (some ⟨kb,kz+q,none⟩)) (fun K9 hK9=>by go_simp;exact hK9) ?_
       (try simp only[pq])
       refine zab (by rw[hO];kernel_rfl) (.string TY) (fun K9 hK9=>by have hv1:=uh HK3;go_simp;exact hK9) ?_
       (try simp only[pq])
       refine zab (by rw[hO];kernel_rfl) (.int .i64 (ly:Int)) (fun K9 hK9=>by have hv1:=uh HLY;go_simp;exact hK9) ?_
       (try simp only[pq])
       refine zab (by rw[hO];kernel_rfl) (.string pf) (fun K9 hK9=>by go_simp;exact hK9) ?_
       (try simp only[pq])
       refine zab (by rw[hO];kernel_rfl) (.int .i64 (lp:Int)) (fun K9 hK9=>by have hv1:=uh HLP;go_simp;exact hK9) ?_
       (try simp only[pq])
       refine zab (by rw[hO];kernel_rfl) (.bool true) (fun K9 hK9=>by obtain ⟨hv1,hv2⟩:=uh HLE;go_simp;exact hK9) ?_
       (try simp only[pq])
       refine zab (by rw[hO];kernel_rfl) (.bool true) (fun K9 hK9=>by go_simp;exact hK9) ?_
       (try simp only[pq])
       refine zab (by rw[hO];kernel_rfl) (.pointer (some ⟨B,0,none⟩)) (fun K9 hK9=>by go_simp;exact hK9) ?_
       (try simp only[pq])
       refine zab (by rw[hO];kernel_rfl) (.slice (some ⟨kb,kz,none⟩) nv kc) (fun K9 hK9=>by have hv1:=uh HC0R;go_simp;exact hK9) ?_
       (try simp only[pq])
       refine zab (by rw[hO];kernel_rfl) (.int .i64 (q:Int)) (fun K9 hK9=>by go_simp;exact hK9) ?_
       (try simp only[pq])
       refine zab (by rw[hO];kernel_rfl) (.pointer (some ⟨kb,kz+q,none⟩)) (fun K9 hK9=>by go_simp;exact hK9) ?_
       (try simp only[pq])
       refine zab (by rw[hO];kernel_rfl) (.string TY) (fun K9 hK9=>by have hv1:=uh HK3;go_simp;exact hK9) ?_
       (try simp only[pq])
       refine zab (by rw[hO];kernel_rfl) (.string pf) (fun K9 hK9=>by go_simp;exact hK9) ?_
       (try simp only[pq])
       refine zab (by rw[hO];kernel_rfl) (.int .i64 (lp:Int)) (fun K9 hK9=>by have hv1:=uh HLP;go_simp;exact hK9) ?_
       (try simp only[pq])
       refine zab (by rw[hO];kernel_rfl) (.string TP) (fun K9 hK9=>by have hv1:=uh HSL;go_simp;exact hK9) ?_
       (try simp only[pq])
       refine zab (by rw[hO];kernel_rfl) (.string pf) (fun K9 hK9=>by go_simp;exact hK9) ?_
       (try simp only[pq])
       refine zab (by rw[hO];kernel_rfl) (.bool true) (fun K9 hK9=>by have hv1:=uh HEQ;go_simp;exact hK9) ?_
       (try simp only[pq])
       refine zab (by rw[hO];kernel_rfl) (.bool true) (fun K9 hK9=>by go_simp;exact hK9) ?_
       (try simp only[pq])
       go_upto_region 28 with fail
       refine wp_region_noPanic ?_
       refine wp_region_held_drew (S:=fun V=>wr.grownBy V none) (by kernel_rfl) (zaa (zac wr none)) (fun _ => ?_)
       refine tq 0 149 (.move (.tmp 18)) ((.int .i64 (t:Int))) (zaa (zac wr none)) ?_
       refine tq 1 150 (.move (.tmp 17)) ((.slice (some ⟨b5,o5,none⟩) nk c5)) (zaa (zac wr none)) ?_
       refine tq 2 151 (.call { callee := .builtin .len,args := #[(.tmp 150)],argTypes := #[30] }) ((.int .i64 (nk:Int))) (zaa (zac wr none)) ?_
       refine tz 3 152 (.binOp .geq 3 (.tmp 149) (.tmp 151) 3) ((.bool false)) (zaa (zac wr none)) ?_ (y:=(Or.inl ⟨by rfl,fun V hV=>by (obtain ⟨hv1,hv2⟩:=uh HTK;go_simp)⟩))
       (try simp only[pq])
       refine tq 4 153 (.move (.tmp 152)) ((.bool false)) (zaa (zac wr none)) ?_
       refine tq 5 154 (.move (.tmp 17)) ((.slice (some ⟨b5,o5,none⟩) nk c5)) (zaa (zac wr none)) ?_
       refine tq 6 155 (.move (.tmp 18)) ((.int .i64 (t:Int))) (zaa (zac wr none)) ?_
       refine tz 7 156 (.indexAddr 30 (.tmp 154) (.tmp 155)) ((.pointer (some ⟨b5,o5+t,none⟩))) (zaa (zac wr none)) ?_ (y:=(Or.inl ⟨by rfl,fun V hV=>by (obtain ⟨hv1,hv2⟩:=uh HTK;go_simp)⟩))
       (try simp only[pq])
       refine tz 8 157 (.load 9 (.tmp 156)) ((.string TY)) (zaa (zac wr none)) ?_ (y:=(Or.inl ⟨by rfl,fun V hV=>by (have hv1:=hV.cell (uh HC5) (by simp);go_simp)⟩))
       refine tq 9 158 (.fieldAddr 32 (.tmp 11) 0) ((.pointer (some ⟨B,0,none⟩))) (zaa (zac wr none)) ?_
       refine tz 10 159 (.load 30 (.tmp 158)) ((.slice (some ⟨kb,kz,none⟩) nv kc)) (zaa (zac wr none)) ?_ (y:=(Or.inl ⟨by rfl,fun V hV=>by (have hv1:=hV.cell (uh HC0R) (by simp);go_simp)⟩))
       refine tq 11 160 (.move (.tmp 19)) ((.int .i64 (q:Int))) (zaa (zac wr none)) ?_
       (try simp only[pq])
       refine tq 12 161 (.indexAddr 30 (.tmp 159) (.tmp 160)) ((.pointer (some ⟨kb,kz+q,none⟩))) (zaa (zac wr none)) ?_
       refine tz 13 162 (.load 9 (.tmp 161)) ((.string TY)) (zaa (zac wr none)) ?_ (y:=(Or.inl ⟨by rfl,fun V hV=>by (have hv1:=hV.cell (uh HK3) (by simp);go_simp)⟩))
       refine tq 14 163 (.binOp .neq 9 (.tmp 157) (.tmp 162) 9) ((.bool false)) (zaa (zac wr none)) ?_
       refine tq 15 164 (.pick (.tmp 153) (.const (.bool true)) (.tmp 163)) ((.bool false)) (zaa (zac wr none)) ?_
       (try simp only[pq])
       refine wpAnyH_done (by kernel_rfl) ?_ _
       refine NoPanic.normal ?_
       go_wp2
       go_roundw
       case rel=>exact ⟨q+1,t+1,by go_num,by go_num,by omega,by omega,hide ⟨uh HST,zaa (uh HU)⟩⟩
       case measure=>simp[intOf];omega
      ·have heq2:¬ TP.toList=pf.toList:=by rw[e1,e2];exact heq
       have HEQ:=hide (And.intro heq2 (beq_eq_false_iff_ne.2 heq2))
       have hno:Lib.hasPrefix ky pl=false:=by rw[hpre,decide_eq_false heq,Bool.and_false]
       have HST:=hide (show t=(KL.take (q+1) |>.filter fun z=>Lib.hasPrefix z pl).length by rw[zid (fun z=>Lib.hasPrefix z pl) KL q hqV (by rw[← uh HKY];exact hno)];exact (uh HI).1)
       have HU:=hide (uh HI).2
       clear hTP e1 e2 heq heq2 hno hpre hlen hly hlp
       go_upto_region 27 with fail
       refine zai fun O hO => ?_
       refine zab (by rw[hO];kernel_rfl) (.pointer (some ⟨B,0,none⟩)) (fun K9 hK9=>by go_simp;exact hK9) ?_
       (try simp only[pq])
       refine zab (by rw[hO];kernel_rfl) (.slice (some ⟨kb,kz,none⟩) nv kc) (fun K9 hK9=>by have hv1:=uh HC0R;go_simp;exact hK9) ?_
       (try simp only[pq])
       refine zab (by rw[hO];kernel_rfl) (.int .i64 (q:Int)) (fun K9 hK9=>by go_simp;exact hK9) ?_
       (try simp only[pq])
       refine zab (by rw[hO];kernel_rfl) (.pointer (some ⟨kb,kz+q,none⟩)) (fun K9 hK9=>by go_simp;exact hK9) ?_
       (try simp only[pq])
       refine zab (by rw[hO];kernel_rfl) (.string TY) (fun K9 hK9=>by have hv1:=uh HK3;go_simp;exact hK9) ?_
       (try simp only[pq])
       refine zab (by rw[hO];kernel_rfl) (.int .i64 (ly:Int)) (fun K9 hK9=>by have hv1:=uh HLY;go_simp;exact hK9) ?_
       (try simp only[pq])
       refine zab (by rw[hO];kernel_rfl) (.string pf) (fun K9 hK9=>by go_simp;exact hK9) ?_
       (try simp only[pq])
       refine zab (by rw[hO];kernel_rfl) (.int .i64 (lp:Int)) (fun K9 hK9=>by have hv1:=uh HLP;go_simp;exact hK9) ?_
       (try simp only[pq])
       refine zab (by rw[hO];kernel_rfl) (.bool true) (fun K9 hK9=>by obtain ⟨hv1,hv2⟩:=uh HLE;go_simp;exact hK9) ?_
       (try simp only[pq])
       refine zab (by rw[hO];kernel_rfl) (.bool true) (fun K9 hK9=>by go_simp;exact hK9) ?_
       (try simp only[pq])
       refine zab (by rw[hO];kernel_rfl) (.pointer (some ⟨B,0,none⟩)) (fun K9 hK9=>by go_simp;exact hK9) ?_
       (try simp only[pq])
       refine zab (by rw[hO];kernel_rfl) (.slice (some ⟨kb,kz,none⟩) nv kc) (fun K9 hK9=>by have hv1:=uh HC0R;go_simp;exact hK9) ?_
       (try simp only[pq])
       refine zab (by rw[hO];kernel_rfl) (.int .i64 (q:Int)) (fun K9 hK9=>by go_simp;exact hK9) ?_
       (try simp only[pq])
       refine zab (by rw[hO];kernel_rfl) (.pointer (some ⟨kb,kz+q,none⟩)) (fun K9 hK9=>by go_simp;exact hK9) ?_
       (try simp only[pq])
       refine zab (by rw[hO];kernel_rfl) (.string TY) (fun K9 hK9=>by have hv1:=uh HK3;go_simp;exact hK9) ?_
       (try simp only[pq])
       refine zab (by rw[hO];kernel_rfl) (.string pf) (fun K9 hK9=>by go_simp;exact hK9) ?_
       (try simp only[pq])
       refine zab (by rw[hO];kernel_rfl) (.int .i64 (lp:Int)) (fun K9 hK9=>by have hv1:=uh HLP;go_simp;exact hK9) ?_
       (try simp only[pq])
       refine zab (by rw[hO];kernel_rfl) (.string TP) (fun K9 hK9=>by have hv1:=uh HSL;go_simp;exact hK9) ?_
       (try simp only[pq])
       refine zab (by rw[hO];kernel_rfl) (.string pf) (fun K9 hK9=>by go_simp;exact hK9) ?_
       (try simp only[pq])
       refine zab (by rw[hO];kernel_rfl) (.bool false) (fun K9 hK9=>by obtain ⟨hv1,hv2⟩:=uh HEQ;go_simp;exact hK9) ?_
       (try simp only[pq])
       refine zab (by rw[hO];kernel_rfl) (.bool false) (fun K9 hK9=>by go_simp;exact hK9) ?_
       (try simp only[pq])
       go_wp2
       go_roundw
       case rel=>exact ⟨q+1,t,rfl,by go_num,by omega,by omega,hide ⟨uh HST,uh HU⟩⟩
       case measure=>simp[intOf];omega
     ·have HLE:=hide (And.intro hlen (show ¬ (lp:Int)≤(ly:Int) by omega))
      have hno:Lib.hasPrefix ky pl=false:=by rw[hpre,decide_eq_false hlen,Bool.false_and]
      have HST:=hide (show t=(KL.take (q+1) |>.filter fun z=>Lib.hasPrefix z pl).length by rw[zid (fun z=>Lib.hasPrefix z pl) KL q hqV (by rw[← uh HKY];exact hno)];exact (uh HI).1)
      have HU:=hide (uh HI).2
      clear hno hpre hlen hly hlp
      go_upto_region 27 with fail
      refine zai fun O hO => ?_
      refine zab (by rw[hO];kernel_rfl) (.pointer (some ⟨B,0,none⟩)) (fun K9 hK9=>by go_simp;exact hK9) ?_
      (try simp only[pq])
      refine zab (by rw[hO];kernel_rfl) (.slice (some ⟨kb,kz,none⟩) nv kc) (fun K9 hK9=>by have hv1:=uh HC0R;go_simp;exact hK9) ?_
      (try simp only[pq])
      refine zab (by rw[hO];kernel_rfl) (.int .i64 (q:Int)) (fun K9 hK9=>by go_simp;exact hK9) ?_
      (try simp only[pq])
      refine zab (by rw[hO];kernel_rfl) (.pointer (some ⟨kb,kz+q,none⟩)) (fun K9 hK9=>by go_simp;exact hK9) ?_
      (try simp only[pq])
      refine zab (by rw[hO];kernel_rfl) (.string TY) (fun K9 hK9=>by have hv1:=uh HK3;go_simp;exact hK9) ?_
      (try simp only[pq])
      refine zab (by rw[hO];kernel_rfl) (.int .i64 (ly:Int)) (fun K9 hK9=>by have hv1:=uh HLY;go_simp;exact hK9) ?_
      (try simp only[pq])
      refine zab (by rw[hO];kernel_rfl) (.string pf) (fun K9 hK9=>by go_simp;exact hK9) ?_
      (try simp only[pq])
      refine zab (by rw[hO];kernel_rfl) (.int .i64 (lp:Int)) (fun K9 hK9=>by have hv1:=uh HLP;go_simp;exact hK9) ?_
      (try simp only[pq])
      refine zab (by rw[hO];kernel_rfl) (.bool false) (fun K9 hK9=>by obtain ⟨hv1,hv2⟩:=uh HLE;go_simp;exact hK9) ?_
      (try simp only[pq])
      refine zab (by rw[hO];kernel_rfl) (.bool false) (fun K9 hK9=>by go_simp;exact hK9) ?_
      (try simp only[pq])
      refine zad (by rw[hO];kernel_rfl) ?_
      (try simp only[pq])
      refine zad (by rw[hO];kernel_rfl) ?_
      (try simp only[pq])
      refine zad (by rw[hO];kernel_rfl) ?_
      (try simp only[pq])
      refine zad (by rw[hO];kernel_rfl) ?_
      (try simp only[pq])
      refine zad (by rw[hO];kernel_rfl) ?_
      (try simp only[pq])
      refine zad (by rw[hO];kernel_rfl) ?_
      (try simp only[pq])
      refine zad (by rw[hO];kernel_rfl) ?_
      (try simp only[pq])
      refine zad (by rw[hO];kernel_rfl) ?_
      (try simp only[pq])
      refine zad (by rw[hO];kernel_rfl) ?_
      (try simp only[pq])
      refine zad (by rw[hO];kernel_rfl) ?_
      (try simp only[pq])
      refine zab (by rw[hO];kernel_rfl) (.bool false) (fun K9 hK9=>by go_simp;exact hK9) ?_
      (try simp only[pq])
      go_wp2
      go_roundw
      case rel=>exact ⟨q+1,t,rfl,by go_num,by omega,by omega,hide ⟨uh HST,uh HU⟩⟩
      case measure=>simp[intOf];omega
    ·have hqi:¬ (q:Int)<(nv:Int):=by omega
     have htk:t=nk:=by
      have h9:=(uh HI).1
      rw[List.take_of_length_le (by have:=uh HKN;omega)] at h9
      rw[h9,uh HNK,uh HKS,uh HKL]
      rfl
     have hgf:=tn (uh HG5) (uh HI).2
     have c1:=zo0 _ ((uh HT).kept0 hgf)
     have HGF:=hide hgf
     subst htk
     clear hgf
     go_upto_region 31 with fail
     refine zai fun O hO => ?_
     refine zab (by rw[hO];kernel_rfl) (.int .i64 (t:Int)) (fun K9 hK9=>by go_simp;exact hK9) ?_
     (try simp only[pq])
     refine zab (by rw[hO];kernel_rfl) (.slice a5 t c5) (fun K9 hK9=>by go_simp;exact hK9) ?_
     (try simp only[pq])
     refine zab (by rw[hO];kernel_rfl) (.int .i64 (t:Int)) (fun K9 hK9=>by go_simp;exact hK9) ?_
     (try simp only[pq])
     refine zab (by rw[hO];kernel_rfl) (.bool true) (fun K9 hK9=>by go_simp;exact hK9) ?_
     (try simp only[pq])
     refine zab (by rw[hO];kernel_rfl) (.bool true) (fun K9 hK9=>by go_simp;exact hK9) ?_
     (try simp only[pq])
     refine zat (by rw[hO];kernel_rfl) fun K9 hK9 => ?_
     go_simp
     go_at_call 21
     refine (c1).mono ?_
     rintro e w5 ⟨rfl,g5⟩
     have HG5:=hide (tn (uh HGF) g5)
     clear g5
     refine hK9 _ _ ?_
     clear hK9 K9
     (try simp only[pq])
     refine zab (by rw[hO];kernel_rfl) (.bool true) (fun K9 hK9=>by go_simp;exact hK9) ?_
     (try simp only[pq])
     refine zab (by rw[hO];kernel_rfl) (.bool true) (fun K9 hK9=>by go_simp;exact hK9) ?_
     (try simp only[pq])
     go_wp2
     go_ret
     exact ⟨rfl,uh HG5⟩
end Go.Proofs.YtoilcpdhhlcidaaGreatDoor
