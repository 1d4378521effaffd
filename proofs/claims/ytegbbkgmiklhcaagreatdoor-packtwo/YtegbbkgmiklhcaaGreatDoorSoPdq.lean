/- Lemmas. -/
import Derived.Shelf.GgSortFunc.Lays
import Derived.Shelf.SlSortFuncK.ComposeK
import Derived.Test.YtegbbkgmiklhcaaGreatDoorSoPeq
import Derived.Test.YtegbbkgmiklhcaaGreatDoorSoPart
import Derived.Test.YtegbbkgmiklhcaaGreatDoorSoPiv
import Derived.Sort.Walk13
import Derived.Sort.AssemblyPlain
namespace Go.Proofs.YtegbbkgmiklhcaaGreatDoor
open Go.RowKit Go.Shelf Go.Lib Go.Sort
def soR:Ren :=
 ⟨fun n=>if n=6 then 41 else if n=10 then 64 else if n=11 then 65 else if n=12 then 66 else if n=13 then 67 else if n=14 then 68 else if n=15 then 83 else if n=16 then 84 else if n=17 then 85 else if n=18 then 86 else if n=19 then 87 else if n=20 then 88 else if n=21 then 89 else if n=22 then 90 else if n=23 then 91 else if n=24 then 92 else if n=25 then 93 else if n=26 then 94 else if n=27 then 95 else if n=28 then 96 else if n=29 then 97 else if n=30 then 98 else if n=31 then 99 else if n=32 then 100 else if n=33 then 101 else if n=34 then 124 else if n=35 then 125 else if n=36 then 126 else if n=37 then 127 else if n=38 then 128 else if n=39 then 142 else n,
 fun n=>if n=0 then 0 else if n=3 then 3 else if n=4 then 4 else if n=5 then 5 else if n=9 then 9 else if n=12 then 12 else if n=17 then 17 else if n=20 then 20 else if n=26 then 92 else if n=32 then 122 else if n=33 then 123 else if n=35 then 125 else if n=37 then 127 else if n=41 then 116 else if n=44 then 132 else if n=49 then 140 else if n=51 then 64 else if n=53 then 169 else if n=54 then 170 else if n=58 then 174 else if n=60 then 203 else if n=64 then 207 else if n=66 then 226 else if n=67 then 227 else if n=75 then 239 else if n=76 then 240 else if n=77 then 241 else if n=78 then 242 else if n=79 then 243 else if n=80 then 244 else if n=82 then 246 else n,
 fun n=>n⟩
set_option maxRecDepth 100000 in
theorem soL:LaysGg.n6 Tryz.prog soR:=by
 constructor <;> (intros;kernel_rfl)
section
variable {lt:Nm→Nm→Bool} {g:Nat} {lb:Array Value} {sf:Nat} {sb:Array Value} {blk n:Nat} {w0:World}
theorem zpy (S:Srt lt g lb sf sb blk n w0) (W:World) (d:Array Nm) (h:Row blk n w0 d W) (a b:Nat) (hab:a≤b) (hb:b≤n) :
  Calls Tryz.prog 96 #[dat g lb sf sb,.int .i64 a,.int .i64 b] W fun e w'=>e = .returned (.tuple #[])∧Row blk n w0 (breakPatterns d a b) w'∧W.grownBy w' (some blk):=by
 have hz:=h.1
 have c:=Any.breakPatterns_func_cells_w (P:=Tryz.prog) (ρ:=soR) { soL with } encN 32 zci (.func g) #[] lb sf sb blk 0 a b d W (by rw[hz];exact S.swap) (h.holds S) (h.inb S) hab (by rw[hz];exact hb) (by rw[hz];exact S.hn)
 refine Calls.mono (show Calls Tryz.prog 96 _ W _ from c) ?_
 rintro e w' ⟨rfl,m,os,rfl⟩
 exact ⟨rfl,h.on S (breakPatterns_holds d a b hab (by rw[hz];exact hb)).1 m os,zg3 W blk m _ os⟩
theorem zpz (S:Srt lt g lb sf sb blk n w0) (W:World) (d:Array Nm) (h:Row blk n w0 d W) (a b:Nat) (hab:a≤b) (hb:b≤n) :
  Calls Tryz.prog 98 #[dat g lb sf sb,.int .i64 a,.int .i64 b] W fun e w'=>e = .returned (.tuple #[])∧Row blk n w0 (reverseRange d a b) w'∧W.grownBy w' (some blk):=by
 have hz:=h.1
 have c:=Any.reverseRange_func_cells_w (P:=Tryz.prog) (ρ:=soR) { soL with } encN 32 zci (.func g) #[] lb sf sb blk 0 a b d W (by rw[hz];exact S.swap) (h.holds S) (h.inb S) hab (by rw[hz];exact hb) (by rw[hz];exact S.hn)
 refine Calls.mono (show Calls Tryz.prog 98 _ W _ from c) ?_
 rintro e w' ⟨rfl,m,os,rfl⟩
 exact ⟨rfl,h.on S (reverseRange_holds d a b hab (by rw[hz];exact hb)).1 m os,zg3 W blk m _ os⟩
set_option maxRecDepth 1000000 in
set_option maxHeartbeats 16000000 in
theorem zp0 (S:Srt lt g lb sf sb blk n w0) (hO:SWO lt):∀ (N a b limit:Nat) (d:Array Nm) (W:World),b - a<N→Row blk n w0 d W→a≤b→b≤n→limit<4611686018427387904→Below lt a b d →
  Calls Tryz.prog 68 #[dat g lb sf sb,.int .i64 a,.int .i64 b,.int .i64 limit] W fun e w'=>e = .returned (.tuple #[])∧Row blk n w0 (pdq lt d a b limit true true) w'∧W.grownBy w' (some blk):=by
 intro N
 induction N with
 | zero=>intro _ _ _ _ _ h;exact absurd h (Nat.not_lt_zero _)
 | succ N ih =>
 intro a b limit d W hN h hab hb hlimit hBel0
 obtain ⟨W1,hW1,hB1,g1⟩:=zcd g lb sf sb W
 have h1:Row blk n w0 d W1:=by rw[hW1];exact h.alloc _
 have hbl:=h.inb S
 have hne:W.heap.size≠blk:=by omega
 obtain ⟨B,hBe⟩:∃ B,B=W.heap.size:=⟨_,rfl⟩
 rw[← hBe] at hB1 hne
 have eg:=S.eg
 have hn:=S.hn
 obtain ⟨HW,HS,H1,HB,HG,HBE⟩:=zh6 hW1 S h1 hB1 g1 hBe
 have HIH:=hide ih
 clear hBe hW1 S h h1 hB1 g1 hbl ih
 go_enter Tryz.func68,Tryz.ntmps68
 go_wp2_with (rw[← uh HW,← uh HBE])
 go_loopg [1,2,3,8,9] (b - a) (fun kx s1 s2 s3 s8 s9 wr=>∃ (a' b' lim:Nat) (wb wp:Bool) (dk:Array Nm),s1 = .int .i64 a'∧s2 = .int .i64 b'∧s3 = .int .i64 lim∧s8 = .bool wb∧s9 = .bool wp ∧
  a'≤b'∧b'≤n∧Hid (b' - a'≤kx∧kx≤b - a)∧lim≤limit∧Hid (Below lt a' b' dk)∧Hid (Row blk n w0 dk wr∧W1.grownBy wr (some blk))∧Hid (pdq lt dk a' b' lim wb wp=pdq lt d a b limit true true))
 case atStart=>exact ⟨a,b,limit,true,true,d,rfl,rfl,rfl,rfl,rfl,hab,hb,⟨Nat.le_refl _,Nat.le_refl _⟩,Nat.le_refl _,hBel0,⟨uh H1,zab _ _⟩,rfl⟩
 case round =>
  clear hBel0 H1
  obtain ⟨a',b',lim,wb,wp,dk,rfl,rfl,rfl,rfl,rfl,hab',hb',HK,hlim,HBel,HR,HA⟩:=hrel
  have hds:dk.size=n:=(uh HR).1.1
  obtain ⟨c0,c1⟩:=zaf (uh HB) hne (uh HR).2
  by_cases h12:b' - a'≤12
  ·have h12z:(b' : Int) - (a' : Int)≤12:=by omega
   have hc:=zpu (uh HS) wr dk (uh HR).1 a' b' hab' hb'
   go_wp2_with (go_at_call 94;refine hc.mono ?_;rintro e w2 ⟨rfl,h2,g2⟩;clear hc;have H2:=hide (And.intro h2 (zaj (uh HR).2 g2));clear h2 g2)
   (try simp only[Exit.inBlock,Exit.then])
   refine bodyPost_ret (results_none rfl _ _ _) rfl ?_
   refine ⟨rfl,?_,zaj (zao _ (uh HG)) (uh H2).2⟩
   rw[← uh HA,pdq_small h12]
   exact (uh H2).1
  ·have h12z:¬ ((b' : Int) - (a' : Int)≤12):=by omega
   by_cases hl0:lim=0
   ·subst hl0
    have hc:=zod (uh HS) wr dk (uh HR).1 a' b' hab' hb'
    go_wp2_with (go_at_call 95;refine hc.mono ?_;rintro e w2 ⟨rfl,h2,g2⟩;clear hc;have H2:=hide (And.intro h2 (zaj (uh HR).2 g2));clear h2 g2)
    (try simp only[Exit.inBlock,Exit.then])
    refine bodyPost_ret (results_none rfl _ _ _) rfl ?_
    refine ⟨rfl,?_,zaj (zao _ (uh HG)) (uh H2).2⟩
    rw[← uh HA,pdq_heap h12 rfl]
    exact (uh H2).1
   ·have hl0z:¬ ((lim:Int)=0):=by omega
    have hF:=rd_facts (lt:=lt) (limit:=lim) (wb:=wb) (wp:=wp) hO partialInsertionSort_holds reverseRange_holds (show a'<b' by omega) (show b'≤dk.size by omega) (uh HBel)
    have hLle:=rd_lim_le (lt:=lt) (d:=dk) (a:=a') (b:=b') (limit:=lim) (wb:=wb) (wp:=wp)
    have hT:=fun (e:wb=true)=>(show (rd lt dk a' b' lim wb wp).d1=dk∧(rd lt dk a' b' lim wb wp).lim=lim by subst e;exact rd_true)
    have hFa:=fun (e:wb=false)=>(show (rd lt dk a' b' lim wb wp).d1=breakPatterns dk a' b'∧(rd lt dk a' b' lim wb wp).lim=lim - 1 by subst e;exact rd_false)
    have hDec:=rd_dec (lt:=lt) (d:=dk) (a:=a') (b:=b') (limit:=lim) (wb:=wb) (wp:=wp)
    have hNot:=rd_not (lt:=lt) (d:=dk) (a:=a') (b:=b') (limit:=lim) (wb:=wb) (wp:=wp)
    have hYes:=rd_pi_yes (lt:=lt) (d:=dk) (a:=a') (b:=b') (limit:=lim) (wb:=wb) (wp:=wp)
    have hNo:=rd_pi_no (lt:=lt) (d:=dk) (a:=a') (b:=b') (limit:=lim) (wb:=wb) (wp:=wp)
    have hC:(rd lt dk a' b' lim wb wp).c=choosePivot lt (rd lt dk a' b' lim wb wp).d1 a' b':=rfl
    have hDone:=pdq_done (lt:=lt) (d:=dk) (a:=a') (b:=b') (limit:=lim) (wb:=wb) (wp:=wp) h12 hl0
    have hEq:=pdq_eq (lt:=lt) (d:=dk) (a:=a') (b:=b') (limit:=lim) (wb:=wb) (wp:=wp) h12 hl0
    have hLeft:=pdq_left (lt:=lt) (d:=dk) (a:=a') (b:=b') (limit:=lim) (wb:=wb) (wp:=wp) h12 hl0
    have hRight:=pdq_right (lt:=lt) (d:=dk) (a:=a') (b:=b') (limit:=lim) (wb:=wb) (wp:=wp) h12 hl0
    obtain ⟨R,hR⟩:∃ R,R=rd lt dk a' b' lim wb wp:=⟨_,rfl⟩
    rw[← hR] at hF hLle hDec hNot hYes hNo hC hDone hEq hLeft hRight
    simp only[← hR] at hT hFa
    clear hR
    obtain ⟨s1,B1,hc1,s2,B2,hpv,s3,B3⟩:=hF
    rw[hds] at s1 s2 s3
    obtain ⟨L,hL⟩:∃ L,L=R.lim:=⟨_,rfl⟩
    obtain ⟨pv,hpve⟩:∃ p,p=R.pivot:=⟨_,rfl⟩
    obtain ⟨hc,hhc⟩:∃ z,z=hintCode R.hint:=⟨_,rfl⟩
    obtain ⟨kc,hkc⟩:∃ z,z=hintCode R.c.2:=⟨_,rfl⟩
    obtain ⟨HL,HPV,HHC,HKC,HT,HFA⟩:=zh6 hL hpve hhc hkc hT hFa
    obtain ⟨HDEC,HNOT,HYES,HNO,HC,HDONE⟩:=zh6 hDec hNot hYes hNo hC hDone
    obtain ⟨HEQ,HLEFT,HRIGHT,HB3,HS1,HS2⟩:=zh6 hEq hLeft hRight B3 s1 s2
    obtain ⟨HS3,HDS⟩:=zh2 s3 hds
    rw[← hL] at hLle
    rw[← hpve] at hpv
    clear hL hpve hhc hkc hT hFa hDec hNot hYes hNo hC hDone hEq hLeft hRight B1 B2 B3 s1 s2 s3 hds HBel
    go_upto_if 35 with fail
    go_cut [3] from 19 (fun s3 wc=>s3 = .int .i64 (L:Int)∧Hid (Row blk n w0 R.d1 wc∧W1.grownBy wc (some blk)))
    case first =>
     cases wb with
     | false =>
      have hlim1:1≤lim:=by omega
      have hbk:=zpy (uh HS) wr dk (uh HR).1 a' b' hab' hb'
      go_wp2_with (go_at_call 96;refine hbk.mono ?_;rintro e w2 ⟨rfl,h2,g2⟩;clear hbk;have H2:=hide (And.intro h2 (zaj (uh HR).2 g2));clear h2 g2)
      go_meet
      case rel =>
       refine ⟨?_,by rw[(uh HFA (by first | trivial | rfl)).1];exact H2⟩
       rw[uh HL,(uh HFA (by first | trivial | rfl)).2]
       congr 1
       omega
     | true =>
      go_wp2_with fail
      go_meet
      case rel=>exact ⟨by rw[uh HL,(uh HT (by first | trivial | rfl)).2],by rw[(uh HT (by first | trivial | rfl)).1];exact HR⟩
    case rest =>
     clear c0 c1 HR
     obtain ⟨rfl,HR⟩:=hcut
     obtain ⟨c0,c1⟩:=zaf (uh HB) hne (uh HR).2
     have hcp:=zpx (uh HS) wc R.d1 (uh HR).1 a' b' (by omega) hb'
     rw[← uh HC,← uh HKC] at hcp
     obtain ⟨cc,hcc⟩:∃ cc,cc=R.c.1:=⟨_,rfl⟩
     rw[← hcc] at hcp hc1
     have HCC:=hide hcc
     clear hcc
     go_upto_if 50 with (go_at_call 97;refine hcp.mono ?_;rintro e w2 ⟨rfl,h2,g2⟩;clear hcp;have H2:=hide (And.intro h2 (tn (uh HR).2 g2));clear h2 g2)
     clear c0 c1 HR
     obtain ⟨c0,c1⟩:=zaf (uh HB) hne (uh H2).2
     go_cut [11,12] from 19 (fun s11 s12 wc=>s11 = .int .i64 (pv:Int)∧s12 = .int .i64 hc∧Hid (Row blk n w0 R.d2 wc∧W1.grownBy wc (some blk)))
     case first =>
      by_cases hh:R.c.2 = .decreasing
      ·have hcode:kc=2:=by rw[uh HKC,hh];rfl
       obtain ⟨e2,epv,eht⟩:=uh HDEC hh
       have hrv:=zpz (uh HS) w2 R.d1 (uh H2).1 a' b' hab' hb'
       rw[← e2] at hrv
       have E2:=hide (And.intro epv eht)
       clear e2 epv eht
       subst hcode
       go_wp2_with (go_at_call 98;refine hrv.mono ?_;rintro e w3 ⟨rfl,h3,g3⟩;clear hrv;have H3:=hide (And.intro h3 (zaj (uh H2).2 g3));clear h3 g3)
       go_meet
       case rel =>
        refine ⟨?_,by rw[uh HHC,(uh E2).2];rfl,H3⟩
        rw[uh HPV,(uh E2).1,← uh HCC]
        congr 1
        omega
      ·have hcode:¬ (kc=2):=fun h=>hh (hintCode_two (by rw[← uh HKC];exact h))
       have hcode2:(kc == 2)=false:=beq_eq_false_iff_ne.2 hcode
       obtain ⟨e2,epv,eht⟩:=uh HNOT hh
       have E2:=hide (And.intro e2 (And.intro epv eht))
       clear e2 epv eht
       go_wp2_with fail
       go_meet
       case rel=>exact ⟨by rw[uh HPV,(uh E2).2.1,← uh HCC],by rw[uh HHC,(uh E2).2.2,← uh HKC],by rw[(uh E2).1];exact H2⟩
     case rest =>
      clear c0 c1 H2
      obtain ⟨rfl,rfl,HR⟩:=hcut
      obtain ⟨c0,c1⟩:=zaf (uh HB) hne (uh HR).2
      go_upto_region 16 with fail
      go_cut [12,68] from 19 (fun s12 s68 wx=>s12 = .int .i64 hc∧s68 = .bool (wb && wp && decide (R.hint = .increasing))∧wx=wc)
      case first =>
       have hone:(hc == 1)=decide (R.hint = .increasing):=by
        rw[uh HHC]
        cases R.hint <;> rfl
       cases hq:decide (R.hint = .increasing) with
       | true =>
        have hc1' : hc=1:=by rw[hq] at hone;simpa using hone
        subst hc1'
        cases wb <;> cases wp <;> (go_wp2_with fail;go_meet;exact ⟨rfl,by first | rfl | (simp[hq]),rfl⟩)
       | false =>
        rw[hq] at hone
        have hc1' : ¬ hc=1:=by simpa using hone
        cases wb <;> cases wp <;> (go_wp2_with fail;go_meet;exact ⟨rfl,by first | rfl | (simp[hq]),rfl⟩)
      case rest =>
       obtain ⟨rfl,rfl,rfl⟩:=hcut
       go_upto_if 68 with fail
       go_cut [] from 19 (fun wx=>Hid (R.pi.2=false)∧Hid (Row blk n w0 R.pi.1 wx∧W1.grownBy wx (some blk)))
       case first =>
        cases h68:(wb && wp && decide (R.hint = .increasing)) with
        | false =>
         have epi:=uh HNO h68
         have EPI:=hide epi
         clear epi
         go_wp2_with fail
         go_meet
         case rel=>exact ⟨by show _=_;rw[uh EPI],by rw[uh EPI];exact HR⟩
        | true =>
         have epi:=uh HYES h68
         have hpi:=zpv (uh HS) wc R.d2 (uh HR).1 a' b' (by omega) hb'
         rw[← epi] at hpi
         clear epi
         cases hp2:R.pi.2 with
         | true =>
          rw[hp2] at hpi
          go_wp2_with (go_at_call 99;refine hpi.mono ?_;rintro e w3 ⟨rfl,h3,g3⟩;clear hpi;have H3:=hide (And.intro h3 (zaj (uh HR).2 g3));clear h3 g3)
          (try simp only[Exit.inBlock,Exit.then])
          refine bodyPost_ret (results_none rfl _ _ _) rfl ?_
          refine ⟨rfl,?_,zaj (zao _ (uh HG)) (uh H3).2⟩
          rw[← uh HA,uh HDONE hp2]
          exact (uh H3).1
         | false =>
          rw[hp2] at hpi
          go_wp2_with (go_at_call 99;refine hpi.mono ?_;rintro e w3 ⟨rfl,h3,g3⟩;clear hpi;have H3:=hide (And.intro h3 (zaj (uh HR).2 g3));clear h3 g3)
          go_meet
          case rel=>exact ⟨hp2,H3⟩
       case rest =>
        clear c0 c1 HR
        obtain ⟨HP2,HR⟩:=hcut
        obtain ⟨c0,c1⟩:=zaf (uh HB) hne (uh HR).2
        obtain ⟨D,hD⟩:∃ D,D=R.pi.1:=⟨_,rfl⟩
        have HD:=hide hD
        rw[← hD] at HR
        clear hD
        go_upto_region 18 with fail
        go_cut [83] from 19 (fun s83 wx=>s83 = .bool (decide (a' > 0) && !lt D[a' - 1]! D[pv]!)∧Hid (Row blk n w0 D wx∧W1.grownBy wx (some blk)))
        case first =>
         rcases Nat.eq_zero_or_pos a' with ha0 | ha0
         ·have ha0z:decide ((a' : Int) > 0)=false:=decide_eq_false (by omega)
          go_wp2_with fail
          go_meet
          case rel=>exact ⟨by simp[ha0],HR⟩
         ·have ha0z:(a' : Int) > 0:=by omega
          have ha0y:(0:Int)<(a' : Int):=by omega
          cases hlv:lt D[a' - 1]! D[pv]! with
          | true =>
           have hl:=(uh HS).less_at (uh HR).1 (a' - 1) pv ((a' : Int) - 1) (pv:Int) (by omega) rfl (by omega) (by omega) true hlv
           go_wp2_with (go_at_fn g;refine hl.mono ?_;rintro e w3 ⟨rfl,h3,g3⟩;clear hl;have H3:=hide (And.intro h3 (tn (uh HR).2 g3));clear h3 g3)
           go_meet
           exact ⟨by simp[ha0,hlv],H3⟩
          | false =>
           have hl:=(uh HS).less_at (uh HR).1 (a' - 1) pv ((a' : Int) - 1) (pv:Int) (by omega) rfl (by omega) (by omega) false hlv
           go_wp2_with (go_at_fn g;refine hl.mono ?_;rintro e w3 ⟨rfl,h3,g3⟩;clear hl;have H3:=hide (And.intro h3 (tn (uh HR).2 g3));clear h3 g3)
           go_meet
           exact ⟨by simp[ha0,hlv],H3⟩
        case rest =>
         clear c0 c1 HR
         obtain ⟨rfl,HR⟩:=hcut
         obtain ⟨c0,c1⟩:=zaf (uh HB) hne (uh HR).2
         cases h87:(decide (a' > 0) && !lt D[a' - 1]! D[pv]!) with
         | false =>
          obtain ⟨mid,ap,d4,hx⟩:∃ mid ap d4,partition lt D a' b' pv=(mid,ap,d4):=⟨_,_,_,rfl⟩
          have hRP:=round_part hO (partition_holds lt) hpv.1 hpv.2 (show b'≤D.size by rw[(uh HR).1.1];exact hb') (by rw[uh HD];exact uh HB3) hx
          obtain ⟨r1,r2,r3,r4,r5,r6,r7⟩:=hRP
          have hpt:=zkz (uh HS) wc D (uh HR).1 a' b' pv hpv.1 hpv.2 hb'
          rw[hx] at hpt
          obtain ⟨X,H87⟩:=zh2 hx h87
          have HRP:=hide (And.intro r3 (And.intro r4 (And.intro r5 (And.intro r6 r7))))
          clear hx r3 r4 r5 r6 r7 h87
          go_upto_if 109 with (go_at_call 101;refine hpt.mono ?_;rintro e w7 ⟨rfl,h7,g7⟩;clear hpt;have H7:=hide (And.intro h7 (zaj (uh HR).2 g7));clear h7 g7)
          have HR8:=HR
          clear c0 c1 HR
          obtain ⟨c0,c1⟩:=zaf (uh HB) hne (uh H7).2
          obtain ⟨r3,r4,r5,r6,r7⟩:=uh HRP
          have hs4:d4.size=n:=by rw[r3];exact (uh HR8).1.1
          by_cases h4:mid - a'<b' - mid
          ·have h4z:(mid:Int) - (a' : Int)<(b' : Int) - (mid:Int):=by omega
           have hih:=uh HIH a' mid L d4 w7 (by have:=uh HK;omega) (uh H7).1 (by omega) (by omega) (by omega) r4
           obtain ⟨pL,sL⟩:=pdq_sorts lt hO d4 a' mid L true true (by omega) (by omega) r4
           have r8:=(r6 _ pL sL).1
           have R8:=hide r8
           have HPL:=hide pL.1
           clear r3 r4 r5 r6 r7 r8 pL sL hs4 HR8
           go_wp2_with (go_at_call 68;refine hih.mono ?_;rintro e w8 ⟨rfl,h8,g8⟩;clear hih;have H8:=hide (And.intro h8 (zaj (uh H7).2 g8));clear h8 g8)
           go_roundg (b' - (mid+1))
           case measure=>have:=uh HK;omega
           case rel =>
            refine ⟨mid+1,b',L,decide (mid - a' ≥ (b' - a') / 8),ap,pdq lt d4 a' mid L true true,by simp,rfl,rfl,?_,rfl,by omega,by omega,⟨Nat.le_refl _,by have:=uh HK;omega⟩,Nat.le_trans hLle hlim,R8,H8,?_⟩
            ·exact congrArg Value.bool (eighth (by omega) (by omega))
            ·show _=_
             have hx:=uh X
             rw[uh HD,uh HPV] at hx
             have hq:=uh H87
             rw[uh HD,uh HPV] at hq
             rw[← uh HA,uh HLEFT (uh HP2) hq (by rw[hx];exact ⟨r1,r2⟩) (by rw[hx];exact h4),hx,← uh HL]
          ·have h4z:¬ ((mid:Int) - (a' : Int)<(b' : Int) - (mid:Int)):=by omega
           have hih:=uh HIH (mid+1) b' L d4 w7 (by have:=uh HK;omega) (uh H7).1 (by omega) (by omega) (by omega) r5
           rw[show ((mid+1:Nat):Int)=(mid:Int)+1 by omega] at hih
           obtain ⟨pL,sL⟩:=pdq_sorts lt hO d4 (mid+1) b' L true true (by omega) (by omega) r5
           have r8:=(r7 _ pL sL).1
           have R8:=hide r8
           have HPL:=hide pL.1
           clear r3 r4 r5 r6 r7 r8 pL sL hs4 HR8
           go_wp2_with (go_at_call 68;refine hih.mono ?_;rintro e w8 ⟨rfl,h8,g8⟩;clear hih;have H8:=hide (And.intro h8 (zaj (uh H7).2 g8));clear h8 g8)
           go_roundg (mid - a')
           case measure=>have:=uh HK;omega
           case rel =>
            refine ⟨a',mid,L,decide (b' - mid ≥ (b' - a') / 8),ap,pdq lt d4 (mid+1) b' L true true,rfl,rfl,rfl,?_,rfl,by omega,by omega,⟨Nat.le_refl _,by have:=uh HK;omega⟩,Nat.le_trans hLle hlim,R8,H8,?_⟩
            ·exact congrArg Value.bool (eighth (by omega) (by omega))
            ·show _=_
             have hx:=uh X
             rw[uh HD,uh HPV] at hx
             have hq:=uh H87
             rw[uh HD,uh HPV] at hq
             rw[← uh HA,uh HRIGHT (uh HP2) hq (by rw[hx];exact ⟨r1,r2⟩) (by rw[hx];exact h4),hx,← uh HL]
         | true =>
          have h87':=h87
          simp only[Bool.and_eq_true,decide_eq_true_eq,Bool.not_eq_true'] at h87'
          obtain ⟨mid,d4,hx⟩:∃ mid d4,partitionEqual lt D a' b' pv=(mid,d4):=⟨_,_,rfl⟩
          obtain ⟨r1,r2,r3,r4,_⟩:=round_eq hO (partitionEqual_holds lt) h87'.1 hpv.1 hpv.2 (show b'≤D.size by rw[(uh HR).1.1];exact hb') (by rw[uh HD];exact uh HB3) h87'.2 hx
          have hpt:=zpw (uh HS) wc D (uh HR).1 a' b' pv hpv.1 hpv.2 hb'
          rw[hx] at hpt
          obtain ⟨X,H87,R4⟩:=zh3 hx h87 r4
          clear hx r3 r4 h87 h87'
          go_wp2_with (go_at_call 100;refine hpt.mono ?_;rintro e w7 ⟨rfl,h7,g7⟩;clear hpt;have H7:=hide (And.intro h7 (zaj (uh HR).2 g7));clear h7 g7)
          go_roundg (b' - mid)
          case measure=>have:=uh HK;omega
          case rel =>
           refine ⟨mid,b',L,wb,wp,d4,rfl,rfl,rfl,rfl,rfl,r2,hb',⟨Nat.le_refl _,by have:=uh HK;omega⟩,Nat.le_trans hLle hlim,R4,H7,?_⟩
           show _=_
           have hx:=uh X
           rw[uh HD,uh HPV] at hx
           have hq:=uh H87
           rw[uh HD,uh HPV] at hq
           rw[← uh HA,uh HEQ (uh HP2) hq (by rw[hx];exact ⟨r1,r2⟩),hx,← uh HL]
end
end Go.Proofs.YtegbbkgmiklhcaaGreatDoor
