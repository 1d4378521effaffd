/- Lemmas. -/
import Derived.Test.YtoilcpdhhlcidaaGreatDoorRStG
namespace Go.Proofs.YtoilcpdhhlcidaaGreatDoor
open Go.RowKit
set_option maxRecDepth 100000 in
set_option maxHeartbeats 16000000 in
theorem zka (R1:Ref1C) (M1:MadeC) (w:World) (ko:Option Addr) (kc:Nat) (vo:Option Addr) (vc:Nat) (s:RSt) (h:RsW w ko kc vo vc s) (hr:RisK s.V) (hn:s.V.length≤90000) (hk:∀ y∈s.V,1≤y.1.length∧y.1.length≤96∧y.2.length≤65536) (hs:s.half≤100000∧s.used≤100000∧s.moves≤1000000000)
  (co:Option Addr) (cc:Nat) (l:List Chg) (hc:Rws w 3 crC co cc l) (hl:l.length≤5000) :
  Calls Tryz.prog 13 #[.agg (rsC ko kc vo vc s).toArray,.slice co l.length cc] w fun e w'=>CmP w w' e ko vo (cmS s l).1 (cmS s l).2:=by
 obtain ⟨Z,hZ5,hZs,hzv⟩:=zdv
 obtain ⟨nl,hnl⟩:∃ n,n=l.length:=⟨_,rfl⟩
 obtain ⟨CS0,hCS0⟩:∃ C,C=rsC ko kc vo vc s:=⟨_,rfl⟩
 rw[← hCS0,← hnl]
 obtain ⟨W1,hW1,hB1,g1⟩:=zah w 32 CS0
 obtain ⟨W2,hW2,hB2,g2⟩:=zah W1 32 Z.toList
 have s1:W1.heap.size=w.heap.size+1:=by rw[hW1,World.size_alloc]
 have s2:W2.heap.size=w.heap.size+2:=by rw[hW2,World.size_alloc,s1]
 rw[s1] at hB2
 have HW2:=hide (show W2=(w.alloc (.cells CS0.toArray 32)).alloc (.cells Z 32) by rw[hW2,hW1,Array.toArray_toList])
 have g02:=tn g1 g2
 have hR2:=h.kept g02
 have hb0:=hB1.kept g2 (by simp)
 have hc2:=hc.kept g02
 have cm:=zpd W2 co cc l hc2 (by omega)
 rw[← hnl] at cm
 have hr0:W2.rangeAt w.heap.size 0 CS0:=zan hb0
 have HIE:=hide (show (Tryz.prog.info? 32).map (·.size)=some CS0.length by rw[hCS0];exact zas)
 have HIE2:=hide (show (Tryz.prog.info? 32).map (·.size)=some CS0.toArray.size by rw[hCS0];exact zas)
 have HZE:=hide (show Z.toList.toArray.size=CS0.toArray.size by rw[hCS0,Array.toArray_toList,hZ5];rfl)
 have HEO:=hide (show CS0.toArray.all (·.oneCell')=true by rw[hCS0];exact zbz _ _ _ _ _)
 have HZ2:=hide hB2
 have HOLD:Hid (∀ z,CmP w (W2.setRow (w.heap.size+1) CS0.toArray) (.returned (.tuple #[.agg CS0.toArray,.int .i64 z])) ko vo s z):=hide (fun z=>by rw[hCS0];exact CmP.ret hB2 hZs hR2 (Fre.refl _ _ _) (Fre.refl _ _ _) g02)
 by_cases hmay:MayC l
 ·rw[(za5 l).2 hmay] at cm
  by_cases hl0:l=[]
  ·have e1:cmS s l=(s,0):=by unfold cmS;rw[if_neg (fun e=>e hmay),if_pos hl0]
   rw[e1]
   have hn0:nl=0:=by rw[hnl,hl0];rfl
   subst hn0
   clear h hr hn hk hs hc hl hZ5 hZs hnl hCS0 hW1 hB1 g1 hW2 hB2 g2 s1 s2 g02 hR2 hb0 hc2 hmay hl0 e1 R1 M1
   go_enter Tryz.func13,Tryz.ntmps13
   go_wp2_with (first
    | (rw[← uh HW2])
    | (go_at_call 32;refine cm.mono ?_;rintro e w3 ⟨rfl,e3⟩;subst w3;clear cm)
    | (refine wpList_load_mid rfl 32 _ rfl w.heap.size 0 rfl CS0 _ hr0 Tryz.underlying32 rfl (uh HIE) ?_;clear hr0)
    | (have hB9:=uh HZ2;refine wpList_store_row rfl 32 _ _ rfl (w.heap.size+1) CS0.toArray rfl rfl _ _ hB9 (uh HIE2) (uh HZE) (uh HEO) ?_;clear hB9))
   refine bodyPost_ret (za9 rfl _ _ _ _ _ _ _ rfl ((uh HZ2).row CS0) Tryz.underlying32 rfl (uh HIE2)) rfl ?_
   exact uh HOLD 0
  ·have hn0:nl≠0:=fun e=>hl0 (List.length_eq_zero_iff.1 (by rw[← hnl];exact e))
   have hn0b:((nl:Int) == 0)=false:=beq_eq_false_iff_ne.2 (by omega)
   have hn0i:¬ (nl:Int)=0:=by omega
   obtain ⟨V2,hV2⟩:∃ V,V=zal s.V l:=⟨_,rfl⟩
   have hV2l:V2.length≤95000:=by have:=zer l s.V;rw[hV2];omega
   have hV2k:∀ y∈V2,1≤y.1.length∧y.1.length≤96∧y.2.length≤65536:=by rw[hV2];exact zcc l hmay.2 hk
   have cmd:=M1.made W2 ko kc vo vc s hR2 hr (by omega) co cc l hc2 (by omega)
   rw[← hCS0,← hnl] at cmd
   obtain ⟨sl,hsl⟩:∃ k,k=zbc l:=⟨_,rfl⟩
   have hsl2:sl≤5000000000:=by rw[hsl];unfold zbc secN;have:=zes hmay.2 (by omega);omega
   have cse:∀ V,W2.grownBy V none→Calls Tryz.prog 34 #[.slice co nl cc] V fun e w'=>e = .returned (.int .i64 (sl:Int))∧V.grownBy w' none:=fun V gV=>by
    rw[hnl,hsl]
    exact zfh R1 V co cc l (hc2.kept gV) (by omega) (zes hmay.2 (by omega))
   obtain ⟨hf,hhf⟩:∃ k,k=s.half:=⟨_,rfl⟩
   obtain ⟨us,hus⟩:∃ k,k=s.used:=⟨_,rfl⟩
   obtain ⟨mv,hmv⟩:∃ k,k=s.moves:=⟨_,rfl⟩
   have hb:hf≤100000∧us≤100000∧mv≤1000000000:=by rw[hhf,hus,hmv];exact hs
   obtain ⟨ts,hts⟩:∃ k,k=us+sl:=⟨_,rfl⟩
   have hw1:IntKind.i64.wrap ((us:Int)+(sl:Int))=(ts:Int):=by rw[IntKind.wrap_i64];omega
   have c2:=hb0.cell 2
   have c3:=hb0.cell 3
   have c4:=hb0.cell 4
   rw[hCS0] at c2 c3 c4
   unfold rsC at c2 c3 c4
   simp only[List.getElem?_cons_zero,List.getElem?_cons_succ] at c2 c3 c4
   rw[← hhf] at c2
   rw[← hus] at c3
   rw[← hmv] at c4
   obtain ⟨HC2,HC3,HC4,HCSE,HW1,HV2⟩:=zh6 c2 c3 c4 cse hw1 hV2
   obtain ⟨HVL,HVK,HB0,HR2,HG02,HZS⟩:=zh6 hV2l hV2k hb0 hR2 g02 hZs
   obtain ⟨HZ5,HS2,HMAY,HL0,HHF,HUS⟩:=zh6 hZ5 s2 hmay hl0 hhf hus
   obtain ⟨HTS,HMV,HSL,HCS0⟩:=zh4 hts hmv hsl hCS0
   have HNT:=hide (show ∀ v∈CS0,∀ t,v ≠ .string t by rw[hCS0];exact zd5 _ _ _ _ _)
   obtain ⟨HRS,HNL⟩:=zh2 hr hnl
   clear h hr hn hk hs hc hl hZ5 hZs hnl hCS0 hW1 hB1 g1 hW2 hB2 g2 s1 s2 g02 hR2 hb0 hc2 hmay hl0 hV2 hV2l hV2k hsl hsl2 cse hhf hus hts hmv hw1 c2 c3 c4 hn0
   go_enter Tryz.func13,Tryz.ntmps13
   go_upto_region 5 with (first
    | (rw[← uh HW2])
    | (go_at_call 32;refine cm.mono ?_;rintro e w3 ⟨rfl,e3⟩;subst w3;clear cm))
   go_wp2_with (first
    | (refine wpList_load_mid rfl 32 _ rfl w.heap.size 0 rfl CS0 _ hr0 Tryz.underlying32 rfl (uh HIE) ?_;clear hr0)
    | (go_at_call 33;fail))
   refine cmd.mono ?_
   rintro e w3 ⟨k1,d1,v1,e1,rfl,hR3,hk1,hv1,g3⟩
   rw[← uh HV2] at hR3
   obtain ⟨C1,hC1⟩:∃ C,C=rsC k1 d1 v1 e1 { s with V:=V2 }:=⟨_,rfl⟩
   rw[← uh HV2,← hC1]
   obtain ⟨W4,hW4,hB4,g4⟩:=zbu w3 32 Z C1
   have hBZ4:Blk (w3.alloc (.cells Z 32)) w3.heap.size 32 Z.toList:=by simpa using Blk.new w3 32 Z.toList
   obtain ⟨HBZ4,HW4,HB4⟩:=zh3 hBZ4 hW4 hB4
   have HIE4:=hide (show (Tryz.prog.info? 32).map (·.size)=some C1.toArray.size by rw[hC1];exact zas)
   have HIE3:=hide (show (Tryz.prog.info? 32).map (·.size)=some C1.length by rw[hC1];exact zas)
   have HZE4:=hide (show Z.toList.toArray.size=C1.toArray.size by rw[hC1,Array.toArray_toList,uh HZ5];rfl)
   have HEO4:=hide (show C1.toArray.all (·.oneCell')=true by rw[hC1];exact zbz _ _ _ _ _)
   have g24:=tn g3 g4
   have HG24:=hide g24
   have HR4:=hide (hR3.kept g4)
   have HW3L:=hide (show w3.heap.size≤W4.heap.size from g4.size)
   obtain ⟨HK1,HV1,HC1⟩:=zh3 hk1 hv1 hC1
   have HQL:=hide (show w.heap.size+2≤w3.heap.size by have:=g3.size;rw[uh HS2] at this;exact this)
   have c2:=g24.cell (uh HC2) (by simp)
   have c3:=g24.cell (uh HC3) (by simp)
   have c4:=g24.cell (uh HC4) (by simp)
   obtain ⟨HC2,HC3,HC4⟩:=zh3 c2 c3 c4
   have HZ4:=hide ((uh HZ2).kept g24 (by simp))
   have hr4:W4.rangeAt w.heap.size 0 CS0:=zan ((uh HB0).kept g24 (by simp))
   have HRG4:=hide hr4
   clear cmd hR3 hk1 hv1 hW4 hB4 g4 g3 hBZ4 hC1 g24 c2 c3 c4 hr4
   go_upto_region 6 with (have hB9:=uh HBZ4;refine wpList_store_row rfl 32 _ _ rfl w3.heap.size C1.toArray rfl rfl _ _ hB9 (uh HIE4) (uh HZE4) (uh HEO4) ?_;clear hB9;rw[← uh HW4])
   by_cases hfit:ts≤hf
   ·have hfi:(ts:Int)≤(hf:Int):=by omega
    have HFIT:=hide (show (ts:Int)≤(hf:Int) by omega)
    obtain ⟨S2,hS2⟩:∃ S,S=(⟨V2,s.half,ts,s.moves⟩:RSt):=⟨_,rfl⟩
    have e2:cmS s l=(S2,0):=by
     unfold cmS
     rw[if_neg (fun e=>e (uh HMAY)),if_neg (uh HL0),if_pos (by rw[← uh HUS,← uh HSL,← uh HHF,← uh HTS];exact hfit),hS2,uh HV2,uh HTS,uh HUS,uh HSL]
    (try simp only[Act.put])
    refine wp_region_noPanic ?_
    refine wp_region_held_drew (S:=fun V=>W4.grownBy V none) (by kernel_rfl) (zaa (zac W4 none)) (fun _ => ?_)
    refine tq 0 19 (.fieldAddr 32 (.tmp 2) 3) ((.pointer (some ⟨w.heap.size,3,none⟩))) (zaa (zac W4 none)) ?_
    refine tz 1 20 (.load 3 (.tmp 19)) ((.int .i64 (us:Int))) (zaa (zac W4 none)) ?_ (y:=(Or.inl ⟨by rfl,fun V hV=>by (have hv1:=hV.cell (uh HC3) (by simp);go_simp)⟩))
    refine tq 2 21 (.move (.tmp 1)) ((.slice co nl cc)) (zaa (zac W4 none)) ?_
    refine tq 5 24 (.fieldAddr 32 (.tmp 2) 2) ((.pointer (some ⟨w.heap.size,2,none⟩))) (zaa (zac W4 none)) ?_
    (try simp only[pq])
    refine tz 6 25 (.load 3 (.tmp 24)) ((.int .i64 (hf:Int))) (zaa (zac W4 none)) ?_ (y:=(Or.inl ⟨by rfl,fun V hV=>by (have hv1:=hV.cell (uh HC2) (by simp);go_simp)⟩))
    (try simp only[pq])
    refine rdq 3 (some 22) (.call { callee := .value (.func 34),args := #[(.tmp 21)],argTypes := #[40] }) (fun K9 hK9 => ?_)
    go_simp
    go_at_call 34
    refine ((uh HCSE) _ (tn (uh HG24) (zaa (zac W4 none)))).mono ?_
    rintro e w5 ⟨rfl,g5⟩
    have HG5:=hide (tn (zaa (zac W4 none)) g5)
    clear g5
    go_wp2_with fail
    refine hK9.out _ _ (uh HG5) (fun _ => ?_)
    clear hK9 K9
    refine tz 4 23 (.binOp .add 3 (.tmp 20) (.tmp 22) 3) ((.int .i64 (ts:Int))) (uh HG5) ?_ (y:=(Or.inl ⟨by rfl,fun V hV=>by (have hv0:=uh HW1;go_simp)⟩))
    refine tz 7 26 (.binOp .leq 3 (.tmp 23) (.tmp 25) 3) ((.bool true)) (uh HG5) ?_ (y:=(Or.inl ⟨by rfl,fun V hV=>by (have hv1:=uh HFIT;go_simp)⟩))
    (try simp only[pq])
    refine wpAnyH_done (by kernel_rfl) ?_ _
    refine NoPanic.normal ?_
    have g5:=uh HG5
    have HBQ:=hide ((uh HB4).kept g5 (by simp))
    have HNQ:=hide (show some w.heap.size≠some w3.heap.size from fun e=>by have:=uh HQL;injection e with e;omega)
    have HC35:=hide (g5.cell (uh HC3) (by simp))
    go_upto_region 7 with fail
    refine wp_region_noPanic ?_
    refine wp_region_held_drew (S:=fun V=>w5.grownBy V (some w3.heap.size)) (by kernel_rfl) (zaa (zac w5 (some w3.heap.size))) (fun _ => ?_)
    refine tq 0 27 (.fieldAddr 32 (.tmp 2) 3) ((.pointer (some ⟨w.heap.size,3,none⟩))) (zaa (zac w5 (some w3.heap.size))) ?_
    refine tz 1 28 (.load 3 (.tmp 27)) ((.int .i64 (us:Int))) (zaa (zac w5 (some w3.heap.size))) ?_ (y:=(Or.inl ⟨by rfl,fun V hV=>by (have hv1:=hV.cell (uh HC35) (uh HNQ);go_simp)⟩))
    refine tq 2 29 (.move (.tmp 1)) ((.slice co nl cc)) (zaa (zac w5 (some w3.heap.size))) ?_
    (try simp only[pq])
    refine rdq 3 (some 30) (.call { callee := .value (.func 34),args := #[(.tmp 29)],argTypes := #[40] }) (fun K9 hK9 => ?_)
    go_simp
    go_at_call 34
    refine ((uh HCSE) _ (tn (tn (uh HG24) (uh HG5)) (zaa (zac w5 none)))).mono ?_
    rintro e w6 ⟨rfl,g6⟩
    have HG6:=hide (tn (zaa (zac w5 none)) g6)
    have hg6:=zae (zac w5 (some w3.heap.size)) (uh HG6) (fun _ e=>by cases e)
    clear g6
    go_wp2_with fail
    refine hK9.out _ _ hg6 (fun _ => ?_)
    clear hK9 K9
    refine tz 4 31 (.binOp .add 3 (.tmp 28) (.tmp 30) 3) ((.int .i64 (ts:Int))) hg6 ?_ (y:=(Or.inl ⟨by rfl,fun V hV=>by (have hv0:=uh HW1;go_simp)⟩))
    refine tq 5 32 (.fieldAddr 32 (.tmp 6) 3) ((.pointer (some ⟨w3.heap.size,3,none⟩))) hg6 ?_
    (try simp only[pq])
    refine rdq 6 none (.store 3 (.tmp 32) (.tmp 31)) (fun K9 hK9 => ?_)
    have hb6:=(uh HBQ).kept (uh HG6) (by simp)
    have q1:=hb6.cell 3
    have f1:=hb6.fz 3
    rw[uh HC1] at q1
    unfold rsC at q1
    simp only[List.getElem?_cons_zero,List.getElem?_cons_succ] at q1
    go_simp
    clear q1 f1
    have gs:=zbs w6 w3.heap.size 3 (.int .i64 (ts:Int))
    have HG7:=hide (zae (zae (zac w5 (some w3.heap.size)) (uh HG6) (fun _ e=>by cases e)) gs (fun x e=>Or.inr e))
    have HB7:=hide (hb6.set 3 (.int .i64 (ts:Int)))
    have HGS:=hide gs
    clear hb6 gs
    refine hK9.out _ _ (uh HG7) (fun _ => ?_)
    clear hK9 K9
    (try simp only[pq])
    refine wpAnyH_done (by kernel_rfl) ?_ _
    refine NoPanic.normal ?_
    have hb7:=uh HB7
    obtain ⟨C2,hC2⟩:∃ C,C=rsC k1 d1 v1 e1 S2:=⟨_,rfl⟩
    have eC2:C1.set 3 (.int .i64 (ts:Int))=C2:=by rw[uh HC1,hC2,hS2];rfl
    rw[eC2] at hb7
    obtain ⟨W7,hW7⟩:∃ W,W=w6.setCell ⟨w3.heap.size,3,none⟩ (.int .i64 (ts:Int)):=⟨_,rfl⟩
    have g7:=uh HG7
    rw[← hW7] at hb7 g7
    have hq7:W7.rangeAt w3.heap.size 0 C2:=zan hb7
    have g45:W4.grownBy w6 none:=tn g5 (uh HG6)
    have gs7:w6.grownBy W7 (some w3.heap.size):=by have:=uh HGS;rw[← hW7] at this;exact this
    have hb6:=(uh HB4).kept g45 (by simp)
    have hR6:=(uh HR4).kept g45
    have hk6:=hR6.keys
    have hv6:=hR6.vals
    rw[zcg] at hk6
    rw[zcv] at hv6
    have hnt:∀ v∈C1,∀ t,v ≠ .string t:=by rw[uh HC1];exact zd5 _ _ _ _ _
    have hk7:=hk6.off hb6 hnt gs7
    have hv7:=hv6.off hb6 hnt gs7
    have hz7:=((uh HZ4).kept g45 (by simp)).kept gs7 (fun e=>by have:=uh HQL;injection e with e;omega)
    have hgw:w.grownBy W7 none:=zae (tn (tn (uh HG02) (uh HG24)) g45) gs7 (fun x e=>by cases e;exact Or.inl (by have:=uh HQL;omega))
    have hfr1:Fre w W7 ko k1:=((uh HK1).low (by have:=uh HS2;omega)).grow (Nat.le_trans (uh HW3L) (Nat.le_trans g45.size gs7.size))
    have hfr2:Fre w W7 vo v1:=((uh HV1).low (by have:=uh HS2;omega)).grow (Nat.le_trans (uh HW3L) (Nat.le_trans g45.size gs7.size))
    have HF:=hide (show CmP w (W7.setRow (w.heap.size+1) C2.toArray) (.returned (.tuple #[.agg C2.toArray,.int .i64 0])) ko vo (cmS s l).1 (cmS s l).2 by
     rw[e2,hC2]
     exact CmP.ret hz7 (uh HZS) ⟨by rw[hS2,zcg];exact hk7,by rw[hS2,zcv];exact hv7⟩ hfr1 hfr2 hgw)
    have HZ7:=hide hz7
    have HIEa:=hide (show (Tryz.prog.info? 32).map (·.size)=some C2.length by rw[hC2];exact zas)
    have HIEb:=hide (show (Tryz.prog.info? 32).map (·.size)=some C2.toArray.size by rw[hC2];exact zas)
    have HZE7:=hide (show Z.toList.toArray.size=C2.toArray.size by rw[hC2,Array.toArray_toList,uh HZ5];rfl)
    have HEO7:=hide (show C2.toArray.all (·.oneCell')=true by rw[hC2];exact zbz _ _ _ _ _)
    have HW7:=hide hW7
    clear hb7 hC2 eC2 g7 g45 gs7 hb6 hR6 hk6 hv6 hnt hk7 hv7 hz7 hgw hfr1 hfr2 hS2 e2 g5 hW7 hfi
    rw[← uh HW7]
    go_wp2_with (first
     | (refine wpList_load_mid rfl 32 _ rfl w3.heap.size 0 rfl C2 _ hq7 Tryz.underlying32 rfl (uh HIEa) ?_;clear hq7)
     | (have hB9:=uh HZ7;refine wpList_store_row rfl 32 _ _ rfl (w.heap.size+1) C2.toArray rfl rfl _ _ hB9 (uh HIEb) (uh HZE7) (uh HEO7) ?_;clear hB9))
    refine bodyPost_ret (za9 rfl _ _ _ _ _ _ _ rfl ((uh HZ7).row C2) Tryz.underlying32 rfl (uh HIEb)) rfl ?_
    exact uh HF
   ·have hfi:¬ (ts:Int)≤(hf:Int):=by omega
    have HFIT:=hide (show ¬ (ts:Int)≤(hf:Int) by omega)
    (try simp only[Act.put])
    refine wp_region_noPanic ?_
    refine wp_region_held_drew (S:=fun V=>W4.grownBy V none) (by kernel_rfl) (zaa (zac W4 none)) (fun _ => ?_)
    refine tq 0 19 (.fieldAddr 32 (.tmp 2) 3) ((.pointer (some ⟨w.heap.size,3,none⟩))) (zaa (zac W4 none)) ?_
    refine tz 1 20 (.load 3 (.tmp 19)) ((.int .i64 (us:Int))) (zaa (zac W4 none)) ?_ (y:=(Or.inl ⟨by rfl,fun V hV=>by (have hv1:=hV.cell (uh HC3) (by simp);go_simp)⟩))
    refine tq 2 21 (.move (.tmp 1)) ((.slice co nl cc)) (zaa (zac W4 none)) ?_
    refine tq 5 24 (.fieldAddr 32 (.tmp 2) 2) ((.pointer (some ⟨w.heap.size,2,none⟩))) (zaa (zac W4 none)) ?_
    (try simp only[pq])
    refine tz 6 25 (.load 3 (.tmp 24)) ((.int .i64 (hf:Int))) (zaa (zac W4 none)) ?_ (y:=(Or.inl ⟨by rfl,fun V hV=>by (have hv1:=hV.cell (uh HC2) (by simp);go_simp)⟩))
    (try simp only[pq])
    refine rdq 3 (some 22) (.call { callee := .value (.func 34),args := #[(.tmp 21)],argTypes := #[40] }) (fun K9 hK9 => ?_)
    go_simp
    go_at_call 34
    refine ((uh HCSE) _ (tn (uh HG24) (zaa (zac W4 none)))).mono ?_
    rintro e w5 ⟨rfl,g5⟩
    have HG5:=hide (tn (zaa (zac W4 none)) g5)
    clear g5
    go_wp2_with fail
    refine hK9.out _ _ (uh HG5) (fun _ => ?_)
    clear hK9 K9
    refine tz 4 23 (.binOp .add 3 (.tmp 20) (.tmp 22) 3) ((.int .i64 (ts:Int))) (uh HG5) ?_ (y:=(Or.inl ⟨by rfl,fun V hV=>by (have hv0:=uh HW1;go_simp)⟩))
    refine tz 7 26 (.binOp .leq 3 (.tmp 23) (.tmp 25) 3) ((.bool false)) (uh HG5) ?_ (y:=(Or.inl ⟨by rfl,fun V hV=>by (have hv1:=uh HFIT;go_simp)⟩))
    (try simp only[pq])
    refine wpAnyH_done (by kernel_rfl) ?_ _
    refine NoPanic.normal ?_
    obtain ⟨n2,hn2⟩:∃ n,n=V2.length:=⟨_,rfl⟩
    obtain ⟨k2,hk2⟩:∃ k,k=zbc (allC V2):=⟨_,rfl⟩
    have g5:=uh HG5
    have hR5:=(uh HR4).kept g5
    have ca:=zpf w5 k1 d1 v1 e1 { s with V:=V2 } hR5 (by show V2.length≤1000000;have:=uh HVL;omega)
    rw[← uh HC1,show ({ s with V:=V2 } : RSt).V.length=n2 from hn2.symm,show ({ s with V:=V2 } : RSt).V=V2 from rfl] at ca
    have hk2b:k2≤5000000000:=by rw[hk2];unfold zbc secN;have:=zes (zou (uh HVK)) (by rw[zds];have:=uh HVL;omega);omega
    have hq5:w5.rangeAt w3.heap.size 0 C1:=zan ((uh HB4).kept g5 (by simp))
    obtain ⟨HN2,HK2⟩:=zh2 hn2 hk2
    clear hR5 hk2 hn2
    go_wp2_with (first
     | (refine wpList_load_mid rfl 32 _ rfl w3.heap.size 0 rfl C1 _ hq5 Tryz.underlying32 rfl (uh HIE3) ?_;clear hq5)
     | (go_at_call 35;fail))
    refine ca.mono ?_
    rintro e w6 ⟨ao,c6,rfl,hal,-,g6⟩
    have csec:=zfh R1 w6 ao c6 (allC V2) hal (by rw[zds];have:=uh HVL;omega) (zes (zou (uh HVK)) (by rw[zds];have:=uh HVL;omega))
    rw[zds,← uh HN2,← uh HK2] at csec
    clear ca hal
    go_upto_region 10 with (go_at_call 34;refine csec.mono ?_;rintro e w7 ⟨rfl,g7⟩;clear csec)
    have g47:=tn g5 (tn g6 g7)
    have hb7:=(uh HB4).kept g47 (by simp)
    have q0:=hb7.cell 0
    rw[uh HC1] at q0
    unfold rsC at q0
    simp only[List.getElem?_cons_zero] at q0
    rw[← uh HN2] at q0
    have HQ7:=hide q0
    have HC7:=hide (g47.cell (uh HC2) (by simp))
    have HB7:=hide hb7
    have hz7:=(uh HZ4).kept g47 (by simp)
    obtain ⟨HZ7,HG47⟩:=zh2 hz7 g47
    have hr7:w7.rangeAt w.heap.size 0 CS0:=zak (uh HRG4) g47 (by simp)
    have hold:cmS s l=(s,15)→CmP w (w7.setRow (w.heap.size+1) CS0.toArray) (.returned (.tuple #[.agg CS0.toArray,.int .i64 15])) ko vo (cmS s l).1 (cmS s l).2:=fun e=>by
     rw[e,uh HCS0]
     exact CmP.ret hz7 (uh HZS) (((uh HR2).kept (uh HG24)).kept g47) (Fre.refl _ _ _) (Fre.refl _ _ _) (tn (tn (uh HG02) (uh HG24)) g47)
    have HOLD7:=hide hold
    have hcm:¬ s.used+zbc l≤s.half:=by rw[← uh HUS,← uh HSL,← uh HHF,← uh HTS];exact hfit
    have HCM:=hide hcm
    clear q0 hb7 hz7 g47 g6 g7 g5 hold hcm hfi
    by_cases hbig:hf<k2
    ·have HBG:=hide (And.intro hbig (show (hf:Int)<(k2:Int) by omega))
     have HF:=hide (uh HOLD7 (by
      unfold cmS
      rw[if_neg (fun e=>e (uh HMAY)),if_neg (uh HL0),if_neg (uh HCM),if_pos (Or.inl (by rw[← uh HV2,← uh HK2,← uh HHF];exact hbig))]))
     clear hbig
     refine zai fun O hO => ?_
     refine zab (by rw[hO];kernel_rfl) (.int .i64 (k2:Int)) (fun K9 hK9=>by go_simp;exact hK9) ?_
     (try simp only[pq])
     refine zab (by rw[hO];kernel_rfl) (.pointer (some ⟨w.heap.size,2,none⟩)) (fun K9 hK9=>by go_simp;exact hK9) ?_
     (try simp only[pq])
     refine zab (by rw[hO];kernel_rfl) (.int .i64 (hf:Int)) (fun K9 hK9=>by have hv1:=uh HC7;go_simp;exact hK9) ?_
     (try simp only[pq])
     refine zab (by rw[hO];kernel_rfl) (.bool true) (fun K9 hK9=>by obtain ⟨hv1,hv2⟩:=uh HBG;go_simp;exact hK9) ?_
     (try simp only[pq])
     refine zab (by rw[hO];kernel_rfl) (.bool true) (fun K9 hK9=>by go_simp;exact hK9) ?_
     (try simp only[pq])
     refine zad (by rw[hO];kernel_rfl) ?_
     (try simp only[pq])
     refine zad (by rw[hO];kernel_rfl) ?_
     (try simp only[pq])
     refine zad (by rw[hO];kernel_rfl) ?_
     (try simp only[pq])
     refine zad (by rw[hO];kernel_rfl) ?_
     (try simp only[pq])
     refine zab (by rw[hO];kernel_rfl) (.bool true) (fun K9 hK9=>by go_simp;exact hK9) ?_
     (try simp only[pq])
     go_wp2_with (first
      | (refine wpList_load_mid rfl 32 _ rfl w.heap.size 0 rfl CS0 _ hr7 Tryz.underlying32 rfl (uh HIE) ?_;clear hr7)
      | (have hB9:=uh HZ7;refine wpList_store_row rfl 32 _ _ rfl (w.heap.size+1) CS0.toArray rfl rfl _ _ hB9 (uh HIE2) (uh HZE) (uh HEO) ?_;clear hB9))
     refine bodyPost_ret (za9 rfl _ _ _ _ _ _ _ rfl ((uh HZ7).row CS0) Tryz.underlying32 rfl (uh HIE2)) rfl ?_
     exact uh HF
    ·by_cases hmany:4096<n2
     ·have HBG:=hide (And.intro hbig (show ¬ (hf:Int)<(k2:Int) by omega))
      have HMN:=hide (And.intro hmany (show (4096:Int)<(n2:Int) by omega))
      have HF:=hide (uh HOLD7 (by
       unfold cmS
       rw[if_neg (fun e=>e (uh HMAY)),if_neg (uh HL0),if_neg (uh HCM),if_pos (Or.inr (by rw[← uh HV2,← uh HN2];exact hmany))]))
      clear hbig hmany
      refine zai fun O hO => ?_
      refine zab (by rw[hO];kernel_rfl) (.int .i64 (k2:Int)) (fun K9 hK9=>by go_simp;exact hK9) ?_
      (try simp only[pq])
      refine zab (by rw[hO];kernel_rfl) (.pointer (some ⟨w.heap.size,2,none⟩)) (fun K9 hK9=>by go_simp;exact hK9) ?_
      (try simp only[pq])
      refine zab (by rw[hO];kernel_rfl) (.int .i64 (hf:Int)) (fun K9 hK9=>by have hv1:=uh HC7;go_simp;exact hK9) ?_
      (try simp only[pq])
      refine zab (by rw[hO];kernel_rfl) (.bool false) (fun K9 hK9=>by obtain ⟨hv1,hv2⟩:=uh HBG;go_simp;exact hK9) ?_
      (try simp only[pq])
      refine zab (by rw[hO];kernel_rfl) (.bool false) (fun K9 hK9=>by go_simp;exact hK9) ?_
      (try simp only[pq])
      refine zab (by rw[hO];kernel_rfl) (.pointer (some ⟨w3.heap.size,0,none⟩)) (fun K9 hK9=>by go_simp;exact hK9) ?_
      (try simp only[pq])
      refine zab (by rw[hO];kernel_rfl) (.slice k1 n2 d1) (fun K9 hK9=>by have hv1:=uh HQ7;go_simp;exact hK9) ?_
      (try simp only[pq])
      refine zab (by rw[hO];kernel_rfl) (.int .i64 (n2:Int)) (fun K9 hK9=>by go_simp;exact hK9) ?_
      (try simp only[pq])
      refine zab (by rw[hO];kernel_rfl) (.bool true) (fun K9 hK9=>by obtain ⟨hv1,hv2⟩:=uh HMN;go_simp;exact hK9) ?_
      (try simp only[pq])
      refine zab (by rw[hO];kernel_rfl) (.bool true) (fun K9 hK9=>by go_simp;exact hK9) ?_
      (try simp only[pq])
      go_wp2_with (first
       | (refine wpList_load_mid rfl 32 _ rfl w.heap.size 0 rfl CS0 _ hr7 Tryz.underlying32 rfl (uh HIE) ?_;clear hr7)
       | (have hB9:=uh HZ7;refine wpList_store_row rfl 32 _ _ rfl (w.heap.size+1) CS0.toArray rfl rfl _ _ hB9 (uh HIE2) (uh HZE) (uh HEO) ?_;clear hB9))
      refine bodyPost_ret (za9 rfl _ _ _ _ _ _ _ rfl ((uh HZ7).row CS0) Tryz.underlying32 rfl (uh HIE2)) rfl ?_
      exact uh HF
     ·have HBG:=hide (And.intro hbig (show ¬ (hf:Int)<(k2:Int) by omega))
      have HMN:=hide (And.intro hmany (show ¬ (4096:Int)<(n2:Int) by omega))
      obtain ⟨ms,hms⟩:∃ k,k=mv+1:=⟨_,rfl⟩
      have hw2:IntKind.i64.wrap ((mv:Int)+1)=(ms:Int):=by rw[IntKind.wrap_i64];omega
      obtain ⟨S2,hS2⟩:∃ S,S=(⟨V2,s.half,k2,ms⟩:RSt):=⟨_,rfl⟩
      have e2:cmS s l=(S2,0):=by
       unfold cmS
       rw[if_neg (fun e=>e (uh HMAY)),if_neg (uh HL0),if_neg (uh HCM),if_neg (by rw[← uh HV2,← uh HK2,← uh HHF,← uh HN2];exact fun e=>e.elim hbig hmany),hS2,hms,uh HMV,uh HV2,uh HK2,uh HV2]
      obtain ⟨W8,hW8⟩:∃ W,W=w7.setCell ⟨w3.heap.size,3,none⟩ (.int .i64 (k2:Int)):=⟨_,rfl⟩
      have hb7:=uh HB7
      have q3:=hb7.cell 3
      have f3:=hb7.fz 3
      rw[uh HC1] at q3
      unfold rsC at q3
      simp only[List.getElem?_cons_zero,List.getElem?_cons_succ] at q3
      have hb8:=hb7.set 3 (.int .i64 (k2:Int))
      rw[← hW8] at hb8
      have q4:=hb8.cell 4
      have f4:=hb8.fz 4
      rw[uh HC1] at q4
      unfold rsC at q4
      simp only[List.set_cons_succ,List.set_cons_zero,List.getElem?_cons_zero,List.getElem?_cons_succ] at q4
      have g8:w7.grownBy W8 (some w3.heap.size):=by rw[hW8];exact zbs _ _ _ _
      have hnq:some w.heap.size≠some w3.heap.size:=fun e=>by have:=uh HQL;injection e with e;omega
      have c48:=g8.cell ((uh HG47).cell (uh HC4) (by simp)) hnq
      obtain ⟨W9,hW9⟩:∃ W,W=W8.setCell ⟨w3.heap.size,4,none⟩ (.int .i64 (ms:Int)):=⟨_,rfl⟩
      have hb9:=hb8.set 4 (.int .i64 (ms:Int))
      rw[← hW9] at hb9
      have g9:w7.grownBy W9 (some w3.heap.size):=by rw[hW9];exact zae g8 (zbs _ _ _ _) (fun x e=>Or.inr e)
      obtain ⟨C3,hC3⟩:∃ C,C=rsC k1 d1 v1 e1 S2:=⟨_,rfl⟩
      have eC3:(C1.set 3 (.int .i64 (k2:Int))).set 4 (.int .i64 (ms:Int))=C3:=by rw[uh HC1,hC3,hS2];rfl
      rw[eC3] at hb9
      have hq9:W9.rangeAt w3.heap.size 0 C3:=zan hb9
      have hR7:=(uh HR4).kept (uh HG47)
      have hk7:=hR7.keys
      have hv7:=hR7.vals
      rw[zcg] at hk7
      rw[zcv] at hv7
      have hnt:∀ v∈C1,∀ t,v ≠ .string t:=by rw[uh HC1];exact zd5 _ _ _ _ _
      have hk9:=hk7.off hb7 hnt g9
      have hv9:=hv7.off hb7 hnt g9
      have hz9:=(uh HZ7).kept g9 (fun e=>by have:=uh HQL;injection e with e;omega)
      have hgw:w.grownBy W9 none:=zae (tn (tn (uh HG02) (uh HG24)) (uh HG47)) g9 (fun x e=>by cases e;exact Or.inl (by have:=uh HQL;omega))
      have hfr1:Fre w W9 ko k1:=((uh HK1).low (by have:=uh HS2;omega)).grow (Nat.le_trans (uh HW3L) (Nat.le_trans (uh HG47).size g9.size))
      have hfr2:Fre w W9 vo v1:=((uh HV1).low (by have:=uh HS2;omega)).grow (Nat.le_trans (uh HW3L) (Nat.le_trans (uh HG47).size g9.size))
      have HF:=hide (show CmP w (W9.setRow (w.heap.size+1) C3.toArray) (.returned (.tuple #[.agg C3.toArray,.int .i64 0])) ko vo (cmS s l).1 (cmS s l).2 by
       rw[e2,hC3]
       exact CmP.ret hz9 (uh HZS) ⟨by rw[hS2,zcg];exact hk9,by rw[hS2,zcv];exact hv9⟩ hfr1 hfr2 hgw)
      have HZ9:=hide hz9
      have HIEa:=hide (show (Tryz.prog.info? 32).map (·.size)=some C3.length by rw[hC3];exact zas)
      have HIEb:=hide (show (Tryz.prog.info? 32).map (·.size)=some C3.toArray.size by rw[hC3];exact zas)
      have HZE9:=hide (show Z.toList.toArray.size=C3.toArray.size by rw[hC3,Array.toArray_toList,uh HZ5];rfl)
      have HEO9:=hide (show C3.toArray.all (·.oneCell')=true by rw[hC3];exact zbz _ _ _ _ _)
      obtain ⟨HW8,HW9⟩:=zh2 hW8 hW9
      clear hb7 hb8 hb9 hC3 eC3 g8 g9 hR7 hk7 hv7 hnt hk9 hv9 hz9 hgw hfr1 hfr2 hS2 e2 hW8 hW9 hbig hmany hms hnq hr7
      refine zai fun O hO => ?_
      refine zab (by rw[hO];kernel_rfl) (.int .i64 (k2:Int)) (fun K9 hK9=>by go_simp;exact hK9) ?_
      (try simp only[pq])
      refine zab (by rw[hO];kernel_rfl) (.pointer (some ⟨w.heap.size,2,none⟩)) (fun K9 hK9=>by go_simp;exact hK9) ?_
      (try simp only[pq])
      refine zab (by rw[hO];kernel_rfl) (.int .i64 (hf:Int)) (fun K9 hK9=>by have hv1:=uh HC7;go_simp;exact hK9) ?_
      (try simp only[pq])
      refine zab (by rw[hO];kernel_rfl) (.bool false) (fun K9 hK9=>by obtain ⟨hv1,hv2⟩:=uh HBG;go_simp;exact hK9) ?_
      (try simp only[pq])
      refine zab (by rw[hO];kernel_rfl) (.bool false) (fun K9 hK9=>by go_simp;exact hK9) ?_
      (try simp only[pq])
      refine zab (by rw[hO];kernel_rfl) (.pointer (some ⟨w3.heap.size,0,none⟩)) (fun K9 hK9=>by go_simp;exact hK9) ?_
      (try simp only[pq])
      refine zab (by rw[hO];kernel_rfl) (.slice k1 n2 d1) (fun K9 hK9=>by have hv1:=uh HQ7;go_simp;exact hK9) ?_
      (try simp only[pq])
      refine zab (by rw[hO];kernel_rfl) (.int .i64 (n2:Int)) (fun K9 hK9=>by go_simp;exact hK9) ?_
      (try simp only[pq])
      refine zab (by rw[hO];kernel_rfl) (.bool false) (fun K9 hK9=>by obtain ⟨hv1,hv2⟩:=uh HMN;go_simp;exact hK9) ?_
      (try simp only[pq])
      refine zab (by rw[hO];kernel_rfl) (.bool false) (fun K9 hK9=>by go_simp;exact hK9) ?_
      (try simp only[pq])
      go_wp2_with (first
       | (rw[← uh HW8])
       | (rw[← uh HW9])
       | (refine wpList_load_mid rfl 32 _ rfl w3.heap.size 0 rfl C3 _ hq9 Tryz.underlying32 rfl (uh HIEa) ?_;clear hq9)
       | (have hB9:=uh HZ9;refine wpList_store_row rfl 32 _ _ rfl (w.heap.size+1) C3.toArray rfl rfl _ _ hB9 (uh HIEb) (uh HZE9) (uh HEO9) ?_;clear hB9))
      refine bodyPost_ret (za9 rfl _ _ _ _ _ _ _ rfl ((uh HZ9).row C3) Tryz.underlying32 rfl (uh HIEb)) rfl ?_
      exact uh HF
 ·have hmb:mayB l=false:=by
   cases hx:mayB l with
   | true=>exact absurd ((za5 l).1 hx) hmay
   | false=>rfl
  rw[hmb] at cm
  have e1:cmS s l=(s,2):=by unfold cmS;rw[if_pos hmay]
  rw[e1]
  clear h hr hn hk hs hc hl hZ5 hZs hnl hCS0 hW1 hB1 g1 hW2 hB2 g2 s1 s2 g02 hR2 hb0 hc2 hmay hmb e1 R1 M1
  go_enter Tryz.func13,Tryz.ntmps13
  go_wp2_with (first
   | (rw[← uh HW2])
   | (go_at_call 32;refine cm.mono ?_;rintro e w3 ⟨rfl,e3⟩;subst w3;clear cm)
   | (refine wpList_load_mid rfl 32 _ rfl w.heap.size 0 rfl CS0 _ hr0 Tryz.underlying32 rfl (uh HIE) ?_;clear hr0)
   | (have hB9:=uh HZ2;refine wpList_store_row rfl 32 _ _ rfl (w.heap.size+1) CS0.toArray rfl rfl _ _ hB9 (uh HIE2) (uh HZE) (uh HEO) ?_;clear hB9))
  refine bodyPost_ret (za9 rfl _ _ _ _ _ _ _ rfl ((uh HZ2).row CS0) Tryz.underlying32 rfl (uh HIE2)) rfl ?_
  exact uh HOLD 2
end Go.Proofs.YtoilcpdhhlcidaaGreatDoor
