/- Lemmas. -/
import Derived.Test.YtoilcpdhhlcidaaGreatDoorMOpen
namespace Go.Proofs.YtoilcpdhhlcidaaGreatDoor
open Go.RowKit
set_option maxRecDepth 100000 in
set_option maxHeartbeats 8000000 in
theorem zi4 (w:World) (a:Int) (bo:Option Addr) (bc:Nat) (be:List UInt8) (hb0:Bts w bo bc be) (hT:Tabs w) :
  Calls Tryz.prog 8 #[.int .i64 a,.slice bo be.length bc] w fun e w'=>e = .returned (.bool true)∧w.grownBy w' none:=by
 obtain ⟨n1,hn1⟩:∃ n,n=be.length:=⟨_,rfl⟩
 rw[← hn1]
 obtain ⟨j,hj,hand⟩:=znn 63 (by decide) a
 have hand2:bits .and .i64 a 63=(j:Int):=hand
 have cn:=lnew (zab w none) 16 (by decide) (by decide)
 rw[show ((16:Nat):Int)=16 from rfl] at cn
 obtain ⟨HT,HJ⟩:=zh2 hT hj
 clear hT hand hj
 by_cases hl1:n1≤300
 ·have hd1:¬ (300:Int)<(n1:Int):=by omega
  obtain ⟨be2,hbe2⟩:∃ l,l=be:=⟨_,rfl⟩
  rw[← hbe2] at hn1 hb0
  obtain ⟨HB2,HM2,HM3⟩:=zh3 hb0 hn1 hl1
  clear hb0 hn1 hl1 hbe2
  go_enter Tryz.func8,Tryz.ntmps8
  go_wp2_with (go_at_call 9;fail)
  refine cn.mono ?_
  rintro e w1 ⟨d,F,rfl,hd1',hF,g1⟩
  have co:=zhc hd1' (zc5 16) ((uh HT).kept0 g1) (by simp)
  rw[show (List.replicate 16 zsec).length / 2=8 by simp] at co
  clear cn hF hand2
  go_wp2_with (go_at_call 10;fail)
  refine co.mono ?_
  rintro e w2 ⟨s,m,F',rfl,hs2,-,-,-,-⟩
  have HST:=hide (And.intro hs2 TuI.begin)
  clear co hs2 hd1' g1 hd1
  go_wp2
  go_loopw [9,10] (fun mv i wr=>∃ (k:Nat) (rs:RSt) (F:List Nat) (m:Nat) (S:List (List UInt8)) (c g:Nat) (ls:List (List Chg)) (p:Nat),i = .int .i64 k∧k≤j∧mv = .int .u64 (rs.moves:Int)∧Hid (StM w wr F s d m S c g ls p rs∧TuI rs k)) (fun _ i _=>j - (intOf i).toNat)
  case atStart=>exact ⟨0,⟨[],8,2,0⟩,F',m,_,_,_,_,_,rfl,Nat.zero_le _,rfl,HST⟩
  case round =>
   obtain ⟨k,rs,F,m,S,c,g,ls,p,rfl,hk,rfl,HR⟩:=hrel
   clear HST
   by_cases hlt:k<j
   ·have hki:(k:Int)<(j:Int):=by omega
    have hk63:k≤63:=by have:=uh HJ;omega
    obtain ⟨bk,hbk⟩:∃ b:UInt8,b=UInt8.ofNat k:=⟨_,rfl⟩
    have hbv:bv bk = .int .u8 (k:Int):=by rw[hbk];exact zor k (by omega)
    have hk8:IntKind.u8.wrap (k:Int)=(k:Int):=by rw[IntKind.wrap_u8];omega
    obtain ⟨W1,hW1,hB1,g1⟩:=zak wr 5 [.int .u8 (k:Int)]
    have ho1:W1.ownsRow wr.heap.size 5 1 (.slice (some ⟨wr.heap.size,0,none⟩) 1 1) 1 ([bk].map bv):=zil (l:=[bk]) (by simpa[hbv] using hB1) (Nat.le_refl _) (by show 1≤maxLen;unfold maxLen;decide)
    have hb1:=((uh HB2).kept (uh HR).1.dw.gb (fun _ e=>by cases e)).kept g1 (fun _ e=>by cases e)
    obtain ⟨HO1,HB1,HG1⟩:=zh3 ho1 hb1 g1
    have HW1:=hide (show W1=wr.alloc (.cells #[.int .u8 (k:Int)] 5) from hW1)
    have hm3:1+n1≤140737488355328:=by have h1:=uh HM2;have h2:=uh HM3;omega
    obtain ⟨HLL,HKK⟩:=zh2 hm3 hk63
    clear hW1 hB1 ho1 hb1 g1 hbv hbk hm3 hk63
    go_upto_region 13 with (first
     | (rw[← uh HW1])
     | (refine zay rfl _ _ rfl wr.heap.size _ 1 ([bk].map bv) rfl (uh HO1) bo bc be2 (uh HB1) n1 (uh HM2) rfl (uh HLL) (uh HG1).size ?_;intro v1 w3 hO1 g3))
    obtain ⟨n5,hn5⟩:∃ n,n=1+n1:=⟨_,rfl⟩
    rw[← hn5] at hO1
    obtain ⟨gv,vc,hv1⟩:=zbp hO1 (by omega)
    subst hv1
    obtain ⟨hvl,hvg,hvb⟩:=Bts.own (l:=bk::be2) hO1
    obtain ⟨vl,hvl2⟩:∃ l,l=bk::be2:=⟨_,rfl⟩
    rw[← hvl2] at hvl hvb
    have hv301:vl.length≤301:=by have h1:=uh HM2;have h2:=uh HM3;omega
    have g13:wr.grownBy w3 none:=zcf (uh HG1) (uh HO1) g3
    have hs3:=(uh HR).1.nn g13
    have hI:=(uh HR).2
    obtain ⟨W4,hW4,hB4,g4⟩:=zak w3 55 [.string (str [107]),.slice (some ⟨gv,0,none⟩) n5 vc,.bool false]
    have hs4:=hs3.nn g4
    obtain ⟨x,hx,hcs⟩:=zhe (uh HR).1 hvl hB4 (hvb.kept g4 (fun _ e=>by cases e)) (by have:=g13.size;omega) hvg
    obtain ⟨rs2,e2,hI2,hV2,hm1,hm2⟩:=zl0 hI hv301
    have cc:=zca hs4 ((uh HT).kept0 hs4.gb) _ _ [x] hcs (by simp) (by have h1:=hI.moves;have h2:=uh HKK;omega) (by have:=hI.small;omega)
    rw[show [x].map ChI.chg=[kC vl] by rw[List.map_cons,hx];rfl,e2,show [x].length=1 from rfl] at cc
    have HW4:=hide (show W4=w3.alloc (.cells #[.string ⟨#[107]⟩,.slice (some ⟨gv,0,none⟩) n5 vc,.bool false] 55) from hW4)
    obtain ⟨HI2,HV2,HVL,HV3⟩:=zh4 hI2 hV2 hvl hv301
    have hap:gv∉m::s::F:=fun hx=>by have h1:=(zhd (uh HR).1 _ hx).2;omega
    have hvb4:=hvb.kept g4 (fun _ e=>by cases e)
    have HVLT:=hide (show gv<W4.heap.size from hvb4.lt _ rfl (fun e=>by rw[e] at hvl2;cases hvl2))
    obtain ⟨HVB4,HAP⟩:=zh2 hvb4 hap
    have hq1:¬ (rs2.moves:Int)<(rs.moves:Int):=by omega
    have hq2:IntKind.u64.wrap ((rs.moves:Int)+1)=(rs.moves:Int)+1:=by rw[IntKind.wrap_u64];have h1:=hI.moves;have h2:=uh HKK;omega
    have hq3:¬ (rs.moves:Int)+1<(rs2.moves:Int):=by omega
    have hml:rs2.moves≤1000000000:=by have h1:=hI2.moves;have h2:=uh HKK;omega
    have HML:=hide hml
    clear hI hs3 hs4 hW4 hB4 g4 hcs hx e2 hI2 hV2 hm1 hm2 hvl hvb hvb4 hap hvl2 hv301 hO1 g3 g13 hvg hn5 HO1 HB1 HG1 HLL HW1 HR hk8 hml
    go_wp2_with (first
     | (rw[← uh HW4])
     | (go_at_call 15;fail))
    refine cc.mono ?_
    rintro e w5 ⟨rfl,F5,m5,S5,c5,g5,ls5,p5,hs5,hF5,hm5,hfr5,-⟩
    have cm:=zcb hs5 (uh HML)
    have cl:=zdb hs5
    obtain ⟨lf,hlf⟩:∃ n,n=rs2.half - rs2.used:=⟨_,rfl⟩
    rw[← hlf] at cl
    have HLF:=hide hlf
    clear hlf
    have HS5:=hide hs5
    have HV5:=hide (hfr5.bts (uh HVB4) (fun ad e=>by cases e;exact uh HAP))
    have HAP5:=hide (zgo (uh HAP) (uh HVLT) hF5 hm5)
    clear cc hs5 hF5 hm5 hfr5 HVB4 HAP HVLT
    go_upto_region 16 with (go_at_call 18;refine cm.mono ?_;rintro e w6 ⟨rfl,e6⟩;subst w6)
    go_wp2_with (go_at_call 17;fail)
    refine cl.mono ?_
    rintro e w6 ⟨rfl,g6⟩
    have hs6:=(uh HS5).nn g6
    have HS6:=hide hs6
    have hv6:=(uh HV5).kept g6 (fun _ e=>by cases e)
    obtain ⟨zl,hzl⟩:∃ z,z=List.replicate 2000 (0:UInt8):=⟨_,rfl⟩
    have hz0:zl.length=2000:=by rw[hzl,List.length_replicate]
    obtain ⟨W7,hW7⟩:∃ W,W=w6.alloc (.cells (zl.map bv).toArray 5):=⟨_,rfl⟩
    have hmk:(Instr.makeSlice 53 (.int .i64 2000) (.int .i64 2000)).run Tryz.prog w6 = .ok (.slice (some ⟨w6.heap.size,0,none⟩) 2000 2000) W7:=by
     rw[hW7,hzl]
     exact zf8 w6 2000 (by decide)
    have hB7:Blk W7 w6.heap.size 5 (zl.map bv):=by
     have:=Blk.new w6 5 (zl.map bv)
     rw[hW7]
     exact this
    have hb7:Bts W7 (some ⟨w6.heap.size,0,none⟩) 2000 zl:=by
     have:=zbn (zan hB7) (by rw[hz0];unfold maxLen;decide)
     rw[hz0] at this
     exact this
    have g7:w6.grownBy W7 none:=by rw[hW7];exact zad (zab _ _) _
    obtain ⟨W8,hW8,hB8,g8⟩:=zak W7 55 [.string (str [107]),.slice (some ⟨w6.heap.size,0,none⟩) 2000 2000,.bool false]
    have hs8:=hs6.nn (tn g7 g8)
    obtain ⟨x,hx,hcs⟩:=zhe hs6 hz0.symm hB8 (hb7.kept g8 (fun _ e=>by cases e)) g7.size (Nat.le_refl _)
    have cc:=zca hs8 ((uh HT).kept0 hs8.gb) _ _ [x] hcs (by simp) (uh HML) (by have:=(uh HI2).small;omega)
    rw[show [x].map ChI.chg=[kC zl] by rw[List.map_cons,hx];rfl,zl1 (uh HI2) hz0,show [x].length=1 from rfl] at cc
    have HW8:=hide (show W8=W7.alloc (.cells #[.string ⟨#[107]⟩,.slice (some ⟨w6.heap.size,0,none⟩) 2000 2000,.bool false] 55) from hW8)
    have HV8:=hide (hv6.kept (tn g7 g8) (fun _ e=>by cases e))
    clear cl hv6 HV5 g6 hs6 hW7 hB7 hb7 g7 hW8 hB8 g8 hs8 hcs hx hzl hz0
    go_wp2_with (first
     | (rw[← uh HW8])
     | (go_at_call 15;fail))
    refine cc.mono ?_
    rintro e w9 ⟨rfl,F9,m9,S9,c9,g9,ls9,p9,hs9,-,-,hfr9,-⟩
    have cm:=zcb hs9 (uh HML)
    have cl:=zdb hs9
    rw[← uh HLF] at cl
    have HS9:=hide hs9
    have HV9:=hide (hfr9.bts (uh HV8) (fun ad e=>by cases e;exact uh HAP5))
    clear cc hs9 hfr9 hmk HV8 HAP5
    go_wp2_with (go_at_call 17;fail)
    refine cl.mono ?_
    rintro e w10 ⟨rfl,g10⟩
    have hs10:=(uh HS9).nn g10
    have cm:=zcb hs10 (uh HML)
    have co:=zj6 hs10 ((uh HT).kept0 hs10.gb) (by have h1:=hs10.hn;have h2:=(uh HI2).half;omega)
    have HS10:=hide hs10
    have HV10:=hide ((uh HV9).kept g10 (fun _ e=>by cases e))
    clear cl hs10 g10
    go_upto_region 19 with (go_at_call 18;refine cm.mono ?_;rintro e w11 ⟨rfl,e11⟩;subst w11)
    go_wp2_with (go_at_call 10;fail)
    refine co.mono ?_
    rintro e w11 ⟨t,m11,rfl,ht11,g11,-⟩
    have hs11:=(uh HS10).nn g11
    have cg:=znf ht11 [107]
    rw[show getK rs2.V [107]=some vl by rw[uh HV2];rfl] at cg
    simp only[Option.getD_some,Option.isSome_some] at cg
    rw[← uh HVL,show str [107]=⟨#[107]⟩ from rfl] at cg
    obtain ⟨HS11,HT11⟩:=zh2 hs11 ht11
    have HV11:=hide ((uh HV10).kept g11 (fun _ e=>by cases e))
    clear co cm hs11 ht11 g11
    go_wp2_with (go_at_call 25;fail)
    refine cg.mono ?_
    rintro e w12 ⟨ga,gc,rfl,hb12,g12⟩
    have ht12:=(uh HT11).nn g12
    have hs12:=(uh HS11).nn g12
    have hv12:=(uh HV11).kept g12 (fun _ e=>by cases e)
    have HCV:=hide (show (convert 53 9 (.slice ga n5 gc)).run Tryz.prog w12 = .ok (.string (str vl)) w12 by have:=zbq hb12;rw[← uh HVL] at this;exact this)
    have HCW:=hide (show (convert 53 9 (.slice (some ⟨gv,0,none⟩) n5 vc)).run Tryz.prog w12 = .ok (.string (str vl)) w12 by have:=zbq hv12;rw[← uh HVL] at this;exact this)
    have cl:=zdb ht12
    rw[← uh HLF] at cl
    have HS12:=hide hs12
    clear cg hb12 g12 ht12 hs12 hv12
    have hki1:IntKind.i64.wrap ((k:Int)+1)=(k:Int)+1:=by rw[IntKind.wrap_i64];have h2:=uh HKK;omega
    go_upto_region 21 with fail
    refine zai fun O hO => ?_
    refine zaa (by rw[hO];kernel_rfl) (.int .i64 0) (fun K9 hK9=>by go_simp;exact hK9) ?_
    (try simp only[pq])
    refine zaa (by rw[hO];kernel_rfl) (.bool false) (fun K9 hK9=>by go_simp;exact hK9) ?_
    (try simp only[pq])
    refine zaa (by rw[hO];kernel_rfl) (.bool false) (fun K9 hK9=>by go_simp;exact hK9) ?_
    (try simp only[pq])
    refine zaa (by rw[hO];kernel_rfl) (.bool true) (fun K9 hK9=>by go_simp;exact hK9) ?_
    (try simp only[pq])
    refine zaa (by rw[hO];kernel_rfl) (.bool false) (fun K9 hK9=>by go_simp;exact hK9) ?_
    (try simp only[pq])
    refine zaa (by rw[hO];kernel_rfl) (.bool false) (fun K9 hK9=>by go_simp;exact hK9) ?_
    (try simp only[pq])
    refine zaa (by rw[hO];kernel_rfl) (.bool false) (fun K9 hK9=>by go_simp;exact hK9) ?_
    (try simp only[pq])
    refine zaa (by rw[hO];kernel_rfl) (.slice ga n5 gc) (fun K9 hK9=>by go_simp;exact hK9) ?_
    (try simp only[pq])
    refine zaa (by rw[hO];kernel_rfl) (.string (str vl)) (fun K9 hK9=>by have hv1:=uh HCV;go_simp;exact hK9) ?_
    (try simp only[pq])
    refine zaa (by rw[hO];kernel_rfl) (.slice (some ⟨gv,0,none⟩) n5 vc) (fun K9 hK9=>by go_simp;exact hK9) ?_
    (try simp only[pq])
    refine zaa (by rw[hO];kernel_rfl) (.string (str vl)) (fun K9 hK9=>by have hv1:=uh HCW;go_simp;exact hK9) ?_
    (try simp only[pq])
    refine zaa (by rw[hO];kernel_rfl) (.bool false) (fun K9 hK9=>by go_simp;exact hK9) ?_
    (try simp only[pq])
    refine zaa (by rw[hO];kernel_rfl) (.bool false) (fun K9 hK9=>by go_simp;exact hK9) ?_
    (try simp only[pq])
    refine zaa (by rw[hO];kernel_rfl) (.bool false) (fun K9 hK9=>by go_simp;exact hK9) ?_
    (try simp only[pq])
    refine zaa (by rw[hO];kernel_rfl) (.pointer (some ⟨t,0,none⟩)) (fun K9 hK9=>by go_simp;exact hK9) ?_
    (try simp only[pq])
    refine zam (by rw[hO];kernel_rfl) fun K9 hK9 => ?_
    go_simp
    go_at_call 17
    refine (cl).mono ?_
    rintro e w13 ⟨rfl,g13⟩
    have HS13:=hide ((uh HS12).nn g13)
    clear cl g13
    refine hK9 _ _ ?_
    clear hK9 K9
    (try simp only[pq])
    refine zaa (by rw[hO];kernel_rfl) (.int .i64 (lf:Int)) (fun K9 hK9=>by go_simp;exact hK9) ?_
    (try simp only[pq])
    refine zaa (by rw[hO];kernel_rfl) (.bool false) (fun K9 hK9=>by go_simp;exact hK9) ?_
    (try simp only[pq])
    refine zaa (by rw[hO];kernel_rfl) (.bool false) (fun K9 hK9=>by go_simp;exact hK9) ?_
    (try simp only[pq])
    go_wp2
    go_roundw
    case rel=>exact ⟨k+1,rs2,F9,m9,S9,c9,g9,ls9,p9,by go_num,by omega,rfl,hide ⟨uh HS13,uh HI2⟩⟩
    case measure=>simp[intOf];omega
   ·have hki:¬ (k:Int)<(j:Int):=by omega
    have hkj:k=j:=by omega
    have c1:=znd wr ((uh HT).kept0 (uh HR).1.dw.gb)
    have HGR:=hide (uh HR).1.dw.gb
    have hfin:j<8∨0<rs.moves:=by
     rcases Nat.lt_or_ge j 8 with h | h
     ·exact Or.inl h
     ·exact Or.inr ((uh HR).2.moved (by omega))
    clear HR hkj
    go_upto_region 23 with fail
    rcases Nat.lt_or_ge j 8 with h8 | h8
    ·have hd8:decide ((j:Int)<8)=true:=decide_eq_true (by omega)
     refine zai fun O hO => ?_
     refine zaa (by rw[hO];kernel_rfl) (.int .i64 (j:Int)) (fun K9 hK9=>by go_simp;exact hK9) ?_
     (try simp only[pq])
     refine zaa (by rw[hO];kernel_rfl) (.bool true) (fun K9 hK9=>by go_simp;exact hK9) ?_
     (try simp only[pq])
     refine zaa (by rw[hO];kernel_rfl) (.bool true) (fun K9 hK9=>by go_simp;exact hK9) ?_
     (try simp only[pq])
     refine zae (by rw[hO];kernel_rfl) ?_
     (try simp only[pq])
     refine zae (by rw[hO];kernel_rfl) ?_
     (try simp only[pq])
     refine zaa (by rw[hO];kernel_rfl) (.bool true) (fun K9 hK9=>by go_simp;exact hK9) ?_
     (try simp only[pq])
     refine zaa (by rw[hO];kernel_rfl) (.bool true) (fun K9 hK9=>by go_simp;exact hK9) ?_
     (try simp only[pq])
     refine zam (by rw[hO];kernel_rfl) fun K9 hK9 => ?_
     go_simp
     go_at_call 21
     refine (c1).mono ?_
     rintro e w5 ⟨rfl,g5⟩
     have HG5:=hide (tn (uh HGR) g5)
     clear g5
     refine hK9 _ _ ?_
     clear hK9 K9
     (try simp only[pq])
     refine zaa (by rw[hO];kernel_rfl) (.bool true) (fun K9 hK9=>by go_simp;exact hK9) ?_
     (try simp only[pq])
     refine zaa (by rw[hO];kernel_rfl) (.bool true) (fun K9 hK9=>by go_simp;exact hK9) ?_
     (try simp only[pq])
     go_wp2
     go_ret
     exact ⟨rfl,uh HG5⟩
    ·have hd8:decide ((j:Int)<8)=false:=decide_eq_false (by omega)
     have hdm:0<rs.moves:=by omega
     have hdi:(0:Int)<(rs.moves:Int):=by omega
     refine zai fun O hO => ?_
     refine zaa (by rw[hO];kernel_rfl) (.int .i64 (j:Int)) (fun K9 hK9=>by go_simp;exact hK9) ?_
     (try simp only[pq])
     refine zaa (by rw[hO];kernel_rfl) (.bool false) (fun K9 hK9=>by go_simp;exact hK9) ?_
     (try simp only[pq])
     refine zaa (by rw[hO];kernel_rfl) (.bool false) (fun K9 hK9=>by go_simp;exact hK9) ?_
     (try simp only[pq])
     refine zaa (by rw[hO];kernel_rfl) (.int .u64 (rs.moves:Int)) (fun K9 hK9=>by go_simp;exact hK9) ?_
     (try simp only[pq])
     refine zaa (by rw[hO];kernel_rfl) (.bool true) (fun K9 hK9=>by go_simp;exact hK9) ?_
     (try simp only[pq])
     refine zaa (by rw[hO];kernel_rfl) (.bool true) (fun K9 hK9=>by go_simp;exact hK9) ?_
     (try simp only[pq])
     refine zaa (by rw[hO];kernel_rfl) (.bool true) (fun K9 hK9=>by go_simp;exact hK9) ?_
     (try simp only[pq])
     refine zam (by rw[hO];kernel_rfl) fun K9 hK9 => ?_
     go_simp
     go_at_call 21
     refine (c1).mono ?_
     rintro e w5 ⟨rfl,g5⟩
     have HG5:=hide (tn (uh HGR) g5)
     clear g5
     refine hK9 _ _ ?_
     clear hK9 K9
     (try simp only[pq])
     refine zaa (by rw[hO];kernel_rfl) (.bool true) (fun K9 hK9=>by go_simp;exact hK9) ?_
     (try simp only[pq])
     refine zaa (by rw[hO];kernel_rfl) (.bool true) (fun K9 hK9=>by go_simp;exact hK9) ?_
     (try simp only[pq])
     go_wp2
     go_ret
     exact ⟨rfl,uh HG5⟩
 ·have hd1:(300:Int)<(n1:Int):=by omega
  obtain ⟨be2,hbe2⟩:∃ l,l=be.take 300:=⟨_,rfl⟩
  have hb2:=hb0.take 300 (by omega)
  rw[← hbe2] at hb2
  have hlc:300≤bc:=by have:=hb0.fits;omega
  have hsl:(Instr.slice 53 (.slice bo n1 bc) none (some (.int .i64 300)) none).run Tryz.prog w = .ok (.slice bo 300 bc) w:=zgp (P:=Tryz.prog) w 53 5 Tryz.underlying53 (fun w=>by kernel_rfl) bo n1 bc 300 hlc
  have hlci:(300:Int)≤(bc:Int):=by omega
  have HB2:=hide hb2
  have HM2:=hide (show 300=be2.length by rw[hbe2,List.length_take];omega)
  have HM3:=hide (show 300≤300 from Nat.le_refl _)
  clear hb0 hn1 hl1 hbe2 hb2 hlc
  go_enter Tryz.func8,Tryz.ntmps8
  go_wp2_with (go_at_call 9;fail)
  refine cn.mono ?_
  rintro e w1 ⟨d,F,rfl,hd1',hF,g1⟩
  have co:=zhc hd1' (zc5 16) ((uh HT).kept0 g1) (by simp)
  rw[show (List.replicate 16 zsec).length / 2=8 by simp] at co
  clear cn hF hand2
  go_wp2_with (go_at_call 10;fail)
  refine co.mono ?_
  rintro e w2 ⟨s,m,F',rfl,hs2,-,-,-,-⟩
  have HST:=hide (And.intro hs2 TuI.begin)
  clear co hs2 hd1' g1 hd1
  go_wp2
  go_loopw [9,10] (fun mv i wr=>∃ (k:Nat) (rs:RSt) (F:List Nat) (m:Nat) (S:List (List UInt8)) (c g:Nat) (ls:List (List Chg)) (p:Nat),i = .int .i64 k∧k≤j∧mv = .int .u64 (rs.moves:Int)∧Hid (StM w wr F s d m S c g ls p rs∧TuI rs k)) (fun _ i _=>j - (intOf i).toNat)
  case atStart=>exact ⟨0,⟨[],8,2,0⟩,F',m,_,_,_,_,_,rfl,Nat.zero_le _,rfl,HST⟩
  case round =>
   obtain ⟨k,rs,F,m,S,c,g,ls,p,rfl,hk,rfl,HR⟩:=hrel
   clear HST
   by_cases hlt:k<j
   ·have hki:(k:Int)<(j:Int):=by omega
    have hk63:k≤63:=by have:=uh HJ;omega
    obtain ⟨bk,hbk⟩:∃ b:UInt8,b=UInt8.ofNat k:=⟨_,rfl⟩
    have hbv:bv bk = .int .u8 (k:Int):=by rw[hbk];exact zor k (by omega)
    have hk8:IntKind.u8.wrap (k:Int)=(k:Int):=by rw[IntKind.wrap_u8];omega
    obtain ⟨W1,hW1,hB1,g1⟩:=zak wr 5 [.int .u8 (k:Int)]
    have ho1:W1.ownsRow wr.heap.size 5 1 (.slice (some ⟨wr.heap.size,0,none⟩) 1 1) 1 ([bk].map bv):=zil (l:=[bk]) (by simpa[hbv] using hB1) (Nat.le_refl _) (by show 1≤maxLen;unfold maxLen;decide)
    have hb1:=((uh HB2).kept (uh HR).1.dw.gb (fun _ e=>by cases e)).kept g1 (fun _ e=>by cases e)
    obtain ⟨HO1,HB1,HG1⟩:=zh3 ho1 hb1 g1
    have HW1:=hide (show W1=wr.alloc (.cells #[.int .u8 (k:Int)] 5) from hW1)
    have hm3:1+300≤140737488355328:=by have h1:=uh HM2;have h2:=uh HM3;omega
    obtain ⟨HLL,HKK⟩:=zh2 hm3 hk63
    clear hW1 hB1 ho1 hb1 g1 hbv hbk hm3 hk63
    go_upto_region 13 with (first
     | (rw[← uh HW1])
     | (refine zay rfl _ _ rfl wr.heap.size _ 1 ([bk].map bv) rfl (uh HO1) bo bc be2 (uh HB1) 300 (uh HM2) rfl (uh HLL) (uh HG1).size ?_;intro v1 w3 hO1 g3))
    obtain ⟨n5,hn5⟩:∃ n,n=1+300:=⟨_,rfl⟩
    rw[← hn5] at hO1
    obtain ⟨gv,vc,hv1⟩:=zbp hO1 (by omega)
    subst hv1
    obtain ⟨hvl,hvg,hvb⟩:=Bts.own (l:=bk::be2) hO1
    obtain ⟨vl,hvl2⟩:∃ l,l=bk::be2:=⟨_,rfl⟩
    rw[← hvl2] at hvl hvb
    have hv301:vl.length≤301:=by have h1:=uh HM2;have h2:=uh HM3;omega
    have g13:wr.grownBy w3 none:=zcf (uh HG1) (uh HO1) g3
    have hs3:=(uh HR).1.nn g13
    have hI:=(uh HR).2
    obtain ⟨W4,hW4,hB4,g4⟩:=zak w3 55 [.string (str [107]),.slice (some ⟨gv,0,none⟩) n5 vc,.bool false]
    have hs4:=hs3.nn g4
    obtain ⟨x,hx,hcs⟩:=zhe (uh HR).1 hvl hB4 (hvb.kept g4 (fun _ e=>by cases e)) (by have:=g13.size;omega) hvg
    obtain ⟨rs2,e2,hI2,hV2,hm1,hm2⟩:=zl0 hI hv301
    have cc:=zca hs4 ((uh HT).kept0 hs4.gb) _ _ [x] hcs (by simp) (by have h1:=hI.moves;have h2:=uh HKK;omega) (by have:=hI.small;omega)
    rw[show [x].map ChI.chg=[kC vl] by rw[List.map_cons,hx];rfl,e2,show [x].length=1 from rfl] at cc
    have HW4:=hide (show W4=w3.alloc (.cells #[.string ⟨#[107]⟩,.slice (some ⟨gv,0,none⟩) n5 vc,.bool false] 55) from hW4)
    obtain ⟨HI2,HV2,HVL,HV3⟩:=zh4 hI2 hV2 hvl hv301
    have hap:gv∉m::s::F:=fun hx=>by have h1:=(zhd (uh HR).1 _ hx).2;omega
    have hvb4:=hvb.kept g4 (fun _ e=>by cases e)
    have HVLT:=hide (show gv<W4.heap.size from hvb4.lt _ rfl (fun e=>by rw[e] at hvl2;cases hvl2))
    obtain ⟨HVB4,HAP⟩:=zh2 hvb4 hap
    have hq1:¬ (rs2.moves:Int)<(rs.moves:Int):=by omega
    have hq2:IntKind.u64.wrap ((rs.moves:Int)+1)=(rs.moves:Int)+1:=by rw[IntKind.wrap_u64];have h1:=hI.moves;have h2:=uh HKK;omega
    have hq3:¬ (rs.moves:Int)+1<(rs2.moves:Int):=by omega
    have hml:rs2.moves≤1000000000:=by have h1:=hI2.moves;have h2:=uh HKK;omega
    have HML:=hide hml
    clear hI hs3 hs4 hW4 hB4 g4 hcs hx e2 hI2 hV2 hm1 hm2 hvl hvb hvb4 hap hvl2 hv301 hO1 g3 g13 hvg hn5 HO1 HB1 HG1 HLL HW1 HR hk8 hml
    go_wp2_with (first
     | (rw[← uh HW4])
     | (go_at_call 15;fail))
    refine cc.mono ?_
    rintro e w5 ⟨rfl,F5,m5,S5,c5,g5,ls5,p5,hs5,hF5,hm5,hfr5,-⟩
    have cm:=zcb hs5 (uh HML)
    have cl:=zdb hs5
    obtain ⟨lf,hlf⟩:∃ n,n=rs2.half - rs2.used:=⟨_,rfl⟩
    rw[← hlf] at cl
    have HLF:=hide hlf
    clear hlf
    have HS5:=hide hs5
    have HV5:=hide (hfr5.bts (uh HVB4) (fun ad e=>by cases e;exact uh HAP))
    have HAP5:=hide (zgo (uh HAP) (uh HVLT) hF5 hm5)
    clear cc hs5 hF5 hm5 hfr5 HVB4 HAP HVLT
    go_upto_region 16 with (go_at_call 18;refine cm.mono ?_;rintro e w6 ⟨rfl,e6⟩;subst w6)
    go_wp2_with (go_at_call 17;fail)
    refine cl.mono ?_
    rintro e w6 ⟨rfl,g6⟩
    have hs6:=(uh HS5).nn g6
    have HS6:=hide hs6
    have hv6:=(uh HV5).kept g6 (fun _ e=>by cases e)
    obtain ⟨zl,hzl⟩:∃ z,z=List.replicate 2000 (0:UInt8):=⟨_,rfl⟩
    have hz0:zl.length=2000:=by rw[hzl,List.length_replicate]
    obtain ⟨W7,hW7⟩:∃ W,W=w6.alloc (.cells (zl.map bv).toArray 5):=⟨_,rfl⟩
    have hmk:(Instr.makeSlice 53 (.int .i64 2000) (.int .i64 2000)).run Tryz.prog w6 = .ok (.slice (some ⟨w6.heap.size,0,none⟩) 2000 2000) W7:=by
     rw[hW7,hzl]
     exact zf8 w6 2000 (by decide)
    have hB7:Blk W7 w6.heap.size 5 (zl.map bv):=by
     have:=Blk.new w6 5 (zl.map bv)
     rw[hW7]
     exact this
    have hb7:Bts W7 (some ⟨w6.heap.size,0,none⟩) 2000 zl:=by
     have:=zbn (zan hB7) (by rw[hz0];unfold maxLen;decide)
     rw[hz0] at this
     exact this
    have g7:w6.grownBy W7 none:=by rw[hW7];exact zad (zab _ _) _
    obtain ⟨W8,hW8,hB8,g8⟩:=zak W7 55 [.string (str [107]),.slice (some ⟨w6.heap.size,0,none⟩) 2000 2000,.bool false]
    have hs8:=hs6.nn (tn g7 g8)
    obtain ⟨x,hx,hcs⟩:=zhe hs6 hz0.symm hB8 (hb7.kept g8 (fun _ e=>by cases e)) g7.size (Nat.le_refl _)
    have cc:=zca hs8 ((uh HT).kept0 hs8.gb) _ _ [x] hcs (by simp) (uh HML) (by have:=(uh HI2).small;omega)
    rw[show [x].map ChI.chg=[kC zl] by rw[List.map_cons,hx];rfl,zl1 (uh HI2) hz0,show [x].length=1 from rfl] at cc
    have HW8:=hide (show W8=W7.alloc (.cells #[.string ⟨#[107]⟩,.slice (some ⟨w6.heap.size,0,none⟩) 2000 2000,.bool false] 55) from hW8)
    have HV8:=hide (hv6.kept (tn g7 g8) (fun _ e=>by cases e))
    clear cl hv6 HV5 g6 hs6 hW7 hB7 hb7 g7 hW8 hB8 g8 hs8 hcs hx hzl hz0
    go_wp2_with (first
     | (rw[← uh HW8])
     | (go_at_call 15;fail))
    refine cc.mono ?_
    rintro e w9 ⟨rfl,F9,m9,S9,c9,g9,ls9,p9,hs9,-,-,hfr9,-⟩
    have cm:=zcb hs9 (uh HML)
    have cl:=zdb hs9
    rw[← uh HLF] at cl
    have HS9:=hide hs9
    have HV9:=hide (hfr9.bts (uh HV8) (fun ad e=>by cases e;exact uh HAP5))
    clear cc hs9 hfr9 hmk HV8 HAP5
    go_wp2_with (go_at_call 17;fail)
    refine cl.mono ?_
    rintro e w10 ⟨rfl,g10⟩
    have hs10:=(uh HS9).nn g10
    have cm:=zcb hs10 (uh HML)
    have co:=zj6 hs10 ((uh HT).kept0 hs10.gb) (by have h1:=hs10.hn;have h2:=(uh HI2).half;omega)
    have HS10:=hide hs10
    have HV10:=hide ((uh HV9).kept g10 (fun _ e=>by cases e))
    clear cl hs10 g10
    go_upto_region 19 with (go_at_call 18;refine cm.mono ?_;rintro e w11 ⟨rfl,e11⟩;subst w11)
    go_wp2_with (go_at_call 10;fail)
    refine co.mono ?_
    rintro e w11 ⟨t,m11,rfl,ht11,g11,-⟩
    have hs11:=(uh HS10).nn g11
    have cg:=znf ht11 [107]
    rw[show getK rs2.V [107]=some vl by rw[uh HV2];rfl] at cg
    simp only[Option.getD_some,Option.isSome_some] at cg
    rw[← uh HVL,show str [107]=⟨#[107]⟩ from rfl] at cg
    obtain ⟨HS11,HT11⟩:=zh2 hs11 ht11
    have HV11:=hide ((uh HV10).kept g11 (fun _ e=>by cases e))
    clear co cm hs11 ht11 g11
    go_wp2_with (go_at_call 25;fail)
    refine cg.mono ?_
    rintro e w12 ⟨ga,gc,rfl,hb12,g12⟩
    have ht12:=(uh HT11).nn g12
    have hs12:=(uh HS11).nn g12
    have hv12:=(uh HV11).kept g12 (fun _ e=>by cases e)
    have HCV:=hide (show (convert 53 9 (.slice ga n5 gc)).run Tryz.prog w12 = .ok (.string (str vl)) w12 by have:=zbq hb12;rw[← uh HVL] at this;exact this)
    have HCW:=hide (show (convert 53 9 (.slice (some ⟨gv,0,none⟩) n5 vc)).run Tryz.prog w12 = .ok (.string (str vl)) w12 by have:=zbq hv12;rw[← uh HVL] at this;exact this)
    have cl:=zdb ht12
    rw[← uh HLF] at cl
    have HS12:=hide hs12
    clear cg hb12 g12 ht12 hs12 hv12
    have hki1:IntKind.i64.wrap ((k:Int)+1)=(k:Int)+1:=by rw[IntKind.wrap_i64];have h2:=uh HKK;omega
    go_upto_region 21 with fail
    refine zai fun O hO => ?_
    refine zaa (by rw[hO];kernel_rfl) (.int .i64 0) (fun K9 hK9=>by go_simp;exact hK9) ?_
    (try simp only[pq])
    refine zaa (by rw[hO];kernel_rfl) (.bool false) (fun K9 hK9=>by go_simp;exact hK9) ?_
    (try simp only[pq])
    refine zaa (by rw[hO];kernel_rfl) (.bool false) (fun K9 hK9=>by go_simp;exact hK9) ?_
    (try simp only[pq])
    refine zaa (by rw[hO];kernel_rfl) (.bool true) (fun K9 hK9=>by go_simp;exact hK9) ?_
    (try simp only[pq])
    refine zaa (by rw[hO];kernel_rfl) (.bool false) (fun K9 hK9=>by go_simp;exact hK9) ?_
    (try simp only[pq])
    refine zaa (by rw[hO];kernel_rfl) (.bool false) (fun K9 hK9=>by go_simp;exact hK9) ?_
    (try simp only[pq])
    refine zaa (by rw[hO];kernel_rfl) (.bool false) (fun K9 hK9=>by go_simp;exact hK9) ?_
    (try simp only[pq])
    refine zaa (by rw[hO];kernel_rfl) (.slice ga n5 gc) (fun K9 hK9=>by go_simp;exact hK9) ?_
    (try simp only[pq])
    refine zaa (by rw[hO];kernel_rfl) (.string (str vl)) (fun K9 hK9=>by have hv1:=uh HCV;go_simp;exact hK9) ?_
    (try simp only[pq])
    refine zaa (by rw[hO];kernel_rfl) (.slice (some ⟨gv,0,none⟩) n5 vc) (fun K9 hK9=>by go_simp;exact hK9) ?_
    (try simp only[pq])
    refine zaa (by rw[hO];kernel_rfl) (.string (str vl)) (fun K9 hK9=>by have hv1:=uh HCW;go_simp;exact hK9) ?_
    (try simp only[pq])
    refine zaa (by rw[hO];kernel_rfl) (.bool false) (fun K9 hK9=>by go_simp;exact hK9) ?_
    (try simp only[pq])
    refine zaa (by rw[hO];kernel_rfl) (.bool false) (fun K9 hK9=>by go_simp;exact hK9) ?_
    (try simp only[pq])
    refine zaa (by rw[hO];kernel_rfl) (.bool false) (fun K9 hK9=>by go_simp;exact hK9) ?_
    (try simp only[pq])
    refine zaa (by rw[hO];kernel_rfl) (.pointer (some ⟨t,0,none⟩)) (fun K9 hK9=>by go_simp;exact hK9) ?_
    (try simp only[pq])
    refine zam (by rw[hO];kernel_rfl) fun K9 hK9 => ?_
    go_simp
    go_at_call 17
    refine (cl).mono ?_
    rintro e w13 ⟨rfl,g13⟩
    have HS13:=hide ((uh HS12).nn g13)
    clear cl g13
    refine hK9 _ _ ?_
    clear hK9 K9
    (try simp only[pq])
    refine zaa (by rw[hO];kernel_rfl) (.int .i64 (lf:Int)) (fun K9 hK9=>by go_simp;exact hK9) ?_
    (try simp only[pq])
    refine zaa (by rw[hO];kernel_rfl) (.bool false) (fun K9 hK9=>by go_simp;exact hK9) ?_
    (try simp only[pq])
    refine zaa (by rw[hO];kernel_rfl) (.bool false) (fun K9 hK9=>by go_simp;exact hK9) ?_
    (try simp only[pq])
    go_wp2
    go_roundw
    case rel=>exact ⟨k+1,rs2,F9,m9,S9,c9,g9,ls9,p9,by go_num,by omega,rfl,hide ⟨uh HS13,uh HI2⟩⟩
    case measure=>simp[intOf];omega
   ·have hki:¬ (k:Int)<(j:Int):=by omega
    have hkj:k=j:=by omega
    have c1:=znd wr ((uh HT).kept0 (uh HR).1.dw.gb)
    have HGR:=hide (uh HR).1.dw.gb
    have hfin:j<8∨0<rs.moves:=by
     rcases Nat.lt_or_ge j 8 with h | h
     ·exact Or.inl h
     ·exact Or.inr ((uh HR).2.moved (by omega))
    clear HR hkj
    go_upto_region 23 with fail
    rcases Nat.lt_or_ge j 8 with h8 | h8
    ·have hd8:decide ((j:Int)<8)=true:=decide_eq_true (by omega)
     refine zai fun O hO => ?_
     refine zaa (by rw[hO];kernel_rfl) (.int .i64 (j:Int)) (fun K9 hK9=>by go_simp;exact hK9) ?_
     (try simp only[pq])
     refine zaa (by rw[hO];kernel_rfl) (.bool true) (fun K9 hK9=>by go_simp;exact hK9) ?_
     (try simp only[pq])
     refine zaa (by rw[hO];kernel_rfl) (.bool true) (fun K9 hK9=>by go_simp;exact hK9) ?_
     (try simp only[pq])
     refine zae (by rw[hO];kernel_rfl) ?_
     (try simp only[pq])
     refine zae (by rw[hO];kernel_rfl) ?_
     (try simp only[pq])
     refine zaa (by rw[hO];kernel_rfl) (.bool true) (fun K9 hK9=>by go_simp;exact hK9) ?_
     (try simp only[pq])
     refine zaa (by rw[hO];kernel_rfl) (.bool true) (fun K9 hK9=>by go_simp;exact hK9) ?_
     (try simp only[pq])
     refine zam (by rw[hO];kernel_rfl) fun K9 hK9 => ?_
     go_simp
     go_at_call 21
     refine (c1).mono ?_
     rintro e w5 ⟨rfl,g5⟩
     have HG5:=hide (tn (uh HGR) g5)
     clear g5
     refine hK9 _ _ ?_
     clear hK9 K9
     (try simp only[pq])
     refine zaa (by rw[hO];kernel_rfl) (.bool true) (fun K9 hK9=>by go_simp;exact hK9) ?_
     (try simp only[pq])
     refine zaa (by rw[hO];kernel_rfl) (.bool true) (fun K9 hK9=>by go_simp;exact hK9) ?_
     (try simp only[pq])
     go_wp2
     go_ret
     exact ⟨rfl,uh HG5⟩
    ·have hd8:decide ((j:Int)<8)=false:=decide_eq_false (by omega)
     have hdm:0<rs.moves:=by omega
     have hdi:(0:Int)<(rs.moves:Int):=by omega
     refine zai fun O hO => ?_
     refine zaa (by rw[hO];kernel_rfl) (.int .i64 (j:Int)) (fun K9 hK9=>by go_simp;exact hK9) ?_
     (try simp only[pq])
     refine zaa (by rw[hO];kernel_rfl) (.bool false) (fun K9 hK9=>by go_simp;exact hK9) ?_
     (try simp only[pq])
     refine zaa (by rw[hO];kernel_rfl) (.bool false) (fun K9 hK9=>by go_simp;exact hK9) ?_
     (try simp only[pq])
     refine zaa (by rw[hO];kernel_rfl) (.int .u64 (rs.moves:Int)) (fun K9 hK9=>by go_simp;exact hK9) ?_
     (try simp only[pq])
     refine zaa (by rw[hO];kernel_rfl) (.bool true) (fun K9 hK9=>by go_simp;exact hK9) ?_
     (try simp only[pq])
     refine zaa (by rw[hO];kernel_rfl) (.bool true) (fun K9 hK9=>by go_simp;exact hK9) ?_
     (try simp only[pq])
     refine zaa (by rw[hO];kernel_rfl) (.bool true) (fun K9 hK9=>by go_simp;exact hK9) ?_
     (try simp only[pq])
     refine zam (by rw[hO];kernel_rfl) fun K9 hK9 => ?_
     go_simp
     go_at_call 21
     refine (c1).mono ?_
     rintro e w5 ⟨rfl,g5⟩
     have HG5:=hide (tn (uh HGR) g5)
     clear g5
     refine hK9 _ _ ?_
     clear hK9 K9
     (try simp only[pq])
     refine zaa (by rw[hO];kernel_rfl) (.bool true) (fun K9 hK9=>by go_simp;exact hK9) ?_
     (try simp only[pq])
     refine zaa (by rw[hO];kernel_rfl) (.bool true) (fun K9 hK9=>by go_simp;exact hK9) ?_
     (try simp only[pq])
     go_wp2
     go_ret
     exact ⟨rfl,uh HG5⟩
end Go.Proofs.YtoilcpdhhlcidaaGreatDoor
