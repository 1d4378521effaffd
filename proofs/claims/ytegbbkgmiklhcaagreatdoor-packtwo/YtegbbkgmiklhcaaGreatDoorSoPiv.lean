/- Lemmas. -/
import Derived.Test.YtegbbkgmiklhcaaGreatDoorSoPin
import Derived.Sort.LotD4
import Derived.Sort.LotD1
namespace Go.Proofs.YtegbbkgmiklhcaaGreatDoor
open Go.RowKit Go.Shelf Go.Lib Go.Sort
set_option maxRecDepth 100000
section
variable {lt:Nm→Nm→Bool} {g:Nat} {lb:Array Value} {sf:Nat} {sb:Array Value} {blk n:Nat} {w0:World}
def Cnt (blk n:Nat) (w0:World) (d:Array Nm) (q s:Nat) (V:World):Prop:=Row blk n w0 d V∧Blk V q 3 [.int .i64 (s:Int)]
theorem Cnt.none {d:Array Nm} {q s:Nat} {V V' : World} (h:Cnt blk n w0 d q s V) (hr:Row blk n w0 d V') (g:V.grownBy V' Option.none):Cnt blk n w0 d q s V':=⟨hr,h.2.kept g (by simp)⟩
theorem Cnt.set {d:Array Nm} {q s:Nat} {V:World} (h:Cnt blk n w0 d q s V) (hq:w0.heap.size≤q) (z:Int) (s' : Nat) (hz:z=(s' : Int)):Cnt blk n w0 d q s' (V.setCell ⟨q,0,Option.none⟩ (.int .i64 z)):=by
 subst hz
 exact ⟨h.1.set q 0 _ hq,h.2.set 0 _⟩
set_option maxHeartbeats 4000000 in
theorem zg4 (S:Srt lt g lb sf sb blk n w0) (W:World) (d:Array Nm) (q s:Nat) (h:Cnt blk n w0 d q s W) (hq:w0.heap.size≤q) (x y:Nat) (hx:x<n) (hy:y<n) (hs:s<1000) :
  Calls Tryz.prog 142 #[dat g lb sf sb,.int .i64 x,.int .i64 y,.pointer (some ⟨q,0,none⟩)] W fun e w'=>e = .returned (.tuple #[.int .i64 (order2 lt d x y s).1,.int .i64 (order2 lt d x y s).2.1])∧Cnt blk n w0 d q (order2 lt d x y s).2.2 w'∧W.grownBy w' (some q):=by
 obtain ⟨W1,hW1,hB1,g1⟩:=zcd g lb sf sb W
 have hqW:=h.2.lt
 have h1:Cnt blk n w0 d q s W1:=h.none (by rw[hW1];exact h.1.alloc _) g1
 obtain ⟨B,hBe⟩:∃ B,B=W.heap.size:=⟨_,rfl⟩
 rw[← hBe] at hB1
 have eg:=S.eg
 have hn:=S.hn
 have c0:=hB1.cell 0
 simp only[List.getElem?_cons_zero] at c0
 cases hlv:lt d[y]! d[x]! with
 | true =>
  have hl:=S.less_at h1.1 y x (y:Int) (x:Int) rfl rfl hy hx true hlv
  obtain ⟨HW,H1,HG,HBE,HQ⟩:=zh5 hW1 h1 g1 hBe hq
  clear hBe hW1 S h h1 hB1 g1 hq
  go_enter Tryz.func142,Tryz.ntmps142
  go_wp2_with (first | (rw[← uh HW,← uh HBE]) | (go_at_fn g;refine hl.mono ?_;rintro e w2 ⟨rfl,hR2,g2⟩;clear hl;have h2:=(uh H1).none hR2 g2;have cq:=h2.2.cell 0;have fq:=h2.2.fz 0;simp only[List.getElem?_cons_zero] at cq;have H2:=hide h2;have HG2:=hide (tn (uh HG) g2);clear h2 hR2 g2))
  go_ret2
  unfold order2
  rw[hlv]
  exact ⟨rfl,(uh H2).set (uh HQ) _ _ (by push_cast;rfl),zae (zao _ (uh HG2)) _ _ (Or.inr rfl)⟩
 | false =>
  have hl:=S.less_at h1.1 y x (y:Int) (x:Int) rfl rfl hy hx false hlv
  obtain ⟨HW,H1,HG,HBE⟩:=zh4 hW1 h1 g1 hBe
  clear hBe hW1 S h h1 hB1 g1 hq
  go_enter Tryz.func142,Tryz.ntmps142
  go_wp2_with (first | (rw[← uh HW,← uh HBE]) | (go_at_fn g;refine hl.mono ?_;rintro e w2 ⟨rfl,hR2,g2⟩;clear hl;have h2:=(uh H1).none hR2 g2;have H2:=hide h2;have HG2:=hide (tn (uh HG) g2);clear h2 hR2 g2))
  go_ret2
  unfold order2
  rw[hlv]
  exact ⟨rfl,uh H2,zao _ (uh HG2)⟩
set_option maxHeartbeats 4000000 in
theorem ziv (S:Srt lt g lb sf sb blk n w0) (W:World) (d:Array Nm) (q s:Nat) (h:Cnt blk n w0 d q s W) (hq:w0.heap.size≤q) (x y z:Nat) (hx:x<n) (hy:y<n) (hz:z<n) (hs:s<900) :
  Calls Tryz.prog 128 #[dat g lb sf sb,.int .i64 x,.int .i64 y,.int .i64 z,.pointer (some ⟨q,0,none⟩)] W fun e w'=>e = .returned (.int .i64 (median lt d x y z s).1)∧Cnt blk n w0 d q (median lt d x y z s).2 w'∧W.grownBy w' (some q):=by
 obtain ⟨W1,hW1,hB1,g1⟩:=zcd g lb sf sb W
 have hqW:=h.2.lt
 have h1:Cnt blk n w0 d q s W1:=h.none (by rw[hW1];exact h.1.alloc _) g1
 obtain ⟨B,hBe⟩:∃ B,B=W.heap.size:=⟨_,rfl⟩
 rw[← hBe] at hB1
 have hne:some B≠some q:=by simp;omega
 obtain ⟨x1,y1,s1,e1⟩:∃ u v t,order2 lt d x y s=(u,v,t):=⟨_,_,_,rfl⟩
 obtain ⟨y2,z2,s2,e2⟩:∃ u v t,order2 lt d y1 z s1=(u,v,t):=⟨_,_,_,rfl⟩
 obtain ⟨x3,y3,s3,e3⟩:∃ u v t,order2 lt d x1 y2 s2=(u,v,t):=⟨_,_,_,rfl⟩
 have hm:median lt d x y z s=(y3,s3):=by unfold median;simp only[e1,e2,e3]
 have m1:=order2_mem lt d x y s
 have m2:=order2_mem lt d y1 z s1
 have n1:=order2_count lt d x y s
 have n2:=order2_count lt d y1 z s1
 rw[e1] at m1 n1
 rw[e2] at m2 n2
 simp only at m1 m2 n1 n2
 have cA:=zg4 S W1 d q s h1 hq x y hx hy (by omega)
 have cB:∀ V,Cnt blk n w0 d q s1 V→Calls Tryz.prog 142 #[dat g lb sf sb,.int .i64 y1,.int .i64 z,.pointer (some ⟨q,0,none⟩)] V fun e w'=>e = .returned (.tuple #[.int .i64 y2,.int .i64 z2])∧Cnt blk n w0 d q s2 w'∧V.grownBy w' (some q):=fun V hV=>by
  have:=zg4 S V d q s1 hV hq y1 z (by omega) hz (by omega)
  rw[e2] at this
  exact this
 have cC:∀ V,Cnt blk n w0 d q s2 V→Calls Tryz.prog 142 #[dat g lb sf sb,.int .i64 x1,.int .i64 y2,.pointer (some ⟨q,0,none⟩)] V fun e w'=>e = .returned (.tuple #[.int .i64 x3,.int .i64 y3])∧Cnt blk n w0 d q s3 w'∧V.grownBy w' (some q):=fun V hV=>by
  have:=zg4 S V d q s2 hV hq x1 y2 (by omega) (by omega) (by omega)
  rw[e3] at this
  exact this
 rw[e1] at cA
 simp only at cA
 rw[hm]
 have b0:=hB1.cell 0
 have b1:=hB1.cell 1
 simp only[List.getElem?_cons_zero,List.getElem?_cons_succ] at b0 b1
 obtain ⟨HW,HB,HG,HBE,HCB,HCC⟩:=zh6 hW1 hB1 g1 hBe cB cC
 have hkeep:∀ V,W1.grownBy V (some q)→V.cell? ⟨B,0,none⟩=some (.func (.func g) #[] lb)∧V.cell? ⟨B,1,none⟩=some (.func (.func sf) #[] sb):=fun V gV=>by
  have:=(uh HB).kept gV hne
  exact ⟨this.cell 0,this.cell 1⟩
 have HKP:=hide hkeep
 have gq:∀ X Y Z:World,X.grownBy Y (some q)→Y.grownBy Z (some q)→X.grownBy Z (some q):=fun _ _ _ h k=>zac h k (fun _ e=>Or.inr e)
 have HGQ:=hide gq
 clear hkeep gq hBe hW1 S h h1 hB1 g1 hq cB cC m1 m2 n1 n2 e1 e2 e3 hm hne hqW
 go_enter Tryz.func128,Tryz.ntmps128
 go_upto_region 2 with (first | (rw[← uh HW,← uh HBE]) | (go_at_call 142;refine cA.mono ?_;rintro e w2 ⟨rfl,h2,g2⟩;clear cA b0 b1;obtain ⟨b0,b1⟩:=uh HKP w2 g2;have cB:=uh HCB w2 h2;have HG2:=hide g2;clear h2 g2))
 go_upto_region 3 with (go_at_call 142;refine cB.mono ?_;rintro e w3 ⟨rfl,h3,g3⟩;clear cB b0 b1;have g4:=uh HGQ _ _ _ (uh HG2) g3;obtain ⟨b0,b1⟩:=uh HKP w3 g4;have cC:=uh HCC w3 h3;have HG3:=hide g4;clear h3 g3 g4)
 go_wp2_with (go_at_call 142;refine cC.mono ?_;rintro e w4 ⟨rfl,h4,g4⟩;clear cC;have HG4:=hide (uh HGQ _ _ _ (uh HG3) g4);have H4:=hide h4;clear h4 g4)
 go_ret
 exact ⟨rfl,uh H4,uh HGQ _ _ _ (zao _ (uh HG)) (uh HG4)⟩
set_option maxHeartbeats 4000000 in
theorem zef (S:Srt lt g lb sf sb blk n w0) (W:World) (d:Array Nm) (q s:Nat) (h:Cnt blk n w0 d q s W) (hq:w0.heap.size≤q) (x:Nat) (h1x:1≤x) (hx:x+1<n) (hs:s<900) :
  Calls Tryz.prog 127 #[dat g lb sf sb,.int .i64 x,.pointer (some ⟨q,0,none⟩)] W fun e w'=>e = .returned (.int .i64 (medianAdjacent lt d x s).1)∧Cnt blk n w0 d q (medianAdjacent lt d x s).2 w'∧W.grownBy w' (some q):=by
 obtain ⟨W1,hW1,hB1,g1⟩:=zcd g lb sf sb W
 have h1:Cnt blk n w0 d q s W1:=h.none (by rw[hW1];exact h.1.alloc _) g1
 have hn:=S.hn
 have cA:=ziv S W1 d q s h1 hq (x - 1) x (x+1) (by omega) (by omega) (by omega) hs
 have b0:=hB1.cell 0
 have b1:=hB1.cell 1
 simp only[List.getElem?_cons_zero,List.getElem?_cons_succ] at b0 b1
 have ea:(x:Int) - 1=((x - 1:Nat):Int):=by omega
 have eb:(x:Int)+1=((x+1:Nat):Int):=by omega
 unfold medianAdjacent
 obtain ⟨xa,hxa⟩:∃ t,t=x - 1:=⟨_,rfl⟩
 obtain ⟨xb,hxb⟩:∃ t,t=x+1:=⟨_,rfl⟩
 rw[← hxa] at cA ea ⊢
 rw[← hxb] at cA eb ⊢
 obtain ⟨HW,HG⟩:=zh2 hW1 g1
 clear hxa hxb hW1 S h h1 hB1 g1 hq
 go_enter Tryz.func127,Tryz.ntmps127
 go_wp2_with (first | (rw[← uh HW]) | (go_at_call 128;refine cA.mono ?_;rintro e w2 ⟨rfl,h2,g2⟩;clear cA;have H2:=hide (And.intro h2 g2);clear h2 g2))
 go_ret
 exact ⟨rfl,(uh H2).1,zac (zao _ (uh HG)) (uh H2).2 (fun _ e=>Or.inr e)⟩
set_option maxHeartbeats 8000000 in
theorem zpx (S:Srt lt g lb sf sb blk n w0) (W:World) (d:Array Nm) (h:Row blk n w0 d W) (a b:Nat) (hab:a<b) (hb:b≤n) :
  Calls Tryz.prog 97 #[dat g lb sf sb,.int .i64 a,.int .i64 b] W fun e w'=>e = .returned (.tuple #[.int .i64 (choosePivot lt d a b).1,.int .i64 (hintCode (choosePivot lt d a b).2)])∧Row blk n w0 d w'∧W.grownBy w' none:=by
 obtain ⟨W1,hW1,hB1,g1⟩:=zcd g lb sf sb W
 obtain ⟨W2,hW2,hB2,g2⟩:∃ W2,W2=W1.alloc (.cells #[.int .i64 ((0:Nat):Int)] 3)∧Blk W2 W1.heap.size 3 [.int .i64 ((0:Nat):Int)]∧W1.grownBy W2 none:=zah W1 _ _
 have hs1:W1.heap.size=W.heap.size+1:=by rw[hW1];simp
 rw[hs1] at hB2
 obtain ⟨B,hBe⟩:∃ B,B=W.heap.size:=⟨_,rfl⟩
 obtain ⟨q,hqe⟩:∃ q,q=W.heap.size+1:=⟨_,rfl⟩
 rw[← hqe] at hB2
 rw[← hBe] at hB1
 have hle:=h.le
 have hq:w0.heap.size≤q:=by omega
 have hBq:some B≠some q:=by simp;omega
 have h2:Cnt blk n w0 d q 0 W2:=⟨by rw[hW2,hW1];exact (h.alloc _).alloc _,hB2⟩
 have hn:=S.hn
 have hB12:=hB1.kept g2 (by simp)
 have hkeep:∀ V,W2.grownBy V (some q)→V.cell? ⟨B,0,none⟩=some (.func (.func g) #[] lb)∧V.cell? ⟨B,1,none⟩=some (.func (.func sf) #[] sb):=fun V gV=>by
  have:=hB12.kept gV hBq
  exact ⟨this.cell 0,this.cell 1⟩
 have hfin:∀ V,W2.grownBy V (some q)→W.grownBy V none:=fun V gV=>zac (tn g1 g2) gV (fun x e=>Or.inl (by injection e with e;omega))
 have gq:∀ X Y Z:World,X.grownBy Y (some q)→Y.grownBy Z (some q)→X.grownBy Z (some q):=fun _ _ _ h k=>zac h k (fun _ e=>Or.inr e)
 have hfold:W2=(W.alloc (.cells #[.func (.func g) #[] lb,.func (.func sf) #[] sb] 132)).alloc (.cells #[.int .i64 0] 3):=by rw[hW2,hW1];rfl
 rw[choosePivot_eq]
 obtain ⟨I,hI⟩:∃ I:Nat,I=a+(b - a) / 4*1:=⟨_,rfl⟩
 obtain ⟨J,hJ⟩:∃ J:Nat,J=a+(b - a) / 4*2:=⟨_,rfl⟩
 obtain ⟨K,hK⟩:∃ K:Nat,K=a+(b - a) / 4*3:=⟨_,rfl⟩
 have eI:((a:Int)+((b:Int) - (a:Int)) / 4)=(I:Int):=by omega
 have eJ:((a:Int)+((b:Int) - (a:Int)) / 4*2)=(J:Int):=by omega
 have eK:((a:Int)+((b:Int) - (a:Int)) / 4*3)=(K:Int):=by omega
 obtain ⟨b0,b1⟩:=hkeep W2 (zab _ _)
 obtain ⟨HW,HKP,HFIN,HGQ,HBE,HQE⟩:=zh6 hfold hkeep hfin gq hBe hqe
 have H2:=hide h2
 have H0:=hide (And.intro (zab W2 (some q)) h2)
 have hra:rawPivot lt d a b=rawPivot lt d a b:=rfl
 by_cases h8:b - a ≥ 8
 ·have h8z:(8:Int)≤(b:Int) - (a:Int):=by omega
  by_cases h50:b - a ≥ 50
  ·have h50z:(50:Int)≤(b:Int) - (a:Int):=by omega
   obtain ⟨i1,s1,e1⟩:∃ u v,medianAdjacent lt d I 0=(u,v):=⟨_,_,rfl⟩
   obtain ⟨j1,s2,e2⟩:∃ u v,medianAdjacent lt d J s1=(u,v):=⟨_,_,rfl⟩
   obtain ⟨k1,s3,e3⟩:∃ u v,medianAdjacent lt d K s2=(u,v):=⟨_,_,rfl⟩
   obtain ⟨p,s,e4⟩:∃ u v,median lt d i1 j1 k1 s3=(u,v):=⟨_,_,rfl⟩
   have hraw:rawPivot lt d a b=(p,s):=by simp only[rawPivot,if_pos h8,if_pos h50,← hI,← hJ,← hK,e1,e2,e3,e4]
   have m1:=medianAdjacent_mem lt d I 0;rw[e1] at m1
   have m2:=medianAdjacent_mem lt d J s1;rw[e2] at m2
   have m3:=medianAdjacent_mem lt d K s2;rw[e3] at m3
   have n1:=medianAdjacent_count lt d I 0;rw[e1] at n1
   have n2:=medianAdjacent_count lt d J s1;rw[e2] at n2
   have n3:=medianAdjacent_count lt d K s2;rw[e3] at n3
   simp only at m1 m2 m3 n1 n2 n3
   have cA:=zef S W2 d q 0 h2 hq I (by omega) (by omega) (by omega)
   rw[e1] at cA
   have cB:∀ V,Cnt blk n w0 d q s1 V→Calls Tryz.prog 127 #[dat g lb sf sb,.int .i64 J,.pointer (some ⟨q,0,none⟩)] V fun e w'=>e = .returned (.int .i64 j1)∧Cnt blk n w0 d q s2 w'∧V.grownBy w' (some q):=fun V hV=>by
    have:=zef S V d q s1 hV hq J (by omega) (by omega) (by omega)
    rw[e2] at this
    exact this
   have cC:∀ V,Cnt blk n w0 d q s2 V→Calls Tryz.prog 127 #[dat g lb sf sb,.int .i64 K,.pointer (some ⟨q,0,none⟩)] V fun e w'=>e = .returned (.int .i64 k1)∧Cnt blk n w0 d q s3 w'∧V.grownBy w' (some q):=fun V hV=>by
    have:=zef S V d q s2 hV hq K (by omega) (by omega) (by omega)
    rw[e3] at this
    exact this
   have cD:∀ V,Cnt blk n w0 d q s3 V→Calls Tryz.prog 128 #[dat g lb sf sb,.int .i64 i1,.int .i64 j1,.int .i64 k1,.pointer (some ⟨q,0,none⟩)] V fun e w'=>e = .returned (.int .i64 p)∧Cnt blk n w0 d q s w'∧V.grownBy w' (some q):=fun V hV=>by
    have:=ziv S V d q s3 hV hq i1 j1 k1 (by omega) (by omega) (by omega) (by omega)
    rw[e4] at this
    exact this
   rw[hraw]
   obtain ⟨Hc,hHc⟩:∃ Hc:Int,Hc=hintCode (hintOf s):=⟨_,rfl⟩
   have hh0:s=0→Hc=1:=fun h=>by rw[hHc,h];rfl
   have hh12:s=12→Hc=2:=fun h=>by rw[hHc,h];rfl
   have hhx:s≠0→s≠12→Hc=0:=fun h1 h2=>by rw[hHc];unfold hintOf;rw[if_neg h1,if_neg h2];rfl
   show Calls Tryz.prog 97 _ W fun e w'=>e = .returned (.tuple #[.int .i64 (p:Int),.int .i64 (hintCode (hintOf s))])∧Row blk n w0 d w'∧W.grownBy w' none
   rw[← hHc]
   have HHc:=hide (And.intro hh0 (And.intro hh12 hhx))
   obtain ⟨HCB,HCC,HCD⟩:=zh3 cB cC cD
   clear hh0 hh12 hhx hHc hraw hra e1 e2 e3 e4 m1 m2 m3 n1 n2 n3 cB cC cD hI hJ hK h2 hkeep hfin gq hfold hBe hqe hq hBq hB12 hB1 hB2 hW1 hW2 g1 g2 hs1 S h hle
   go_enter Tryz.func97,Tryz.ntmps97
   go_upto_region 9 with (first | (rw[← uh HW,← uh HQE,← uh HBE]) | (go_at_call 127;refine cA.mono ?_;rintro e w2 ⟨rfl,h2,g2⟩;clear cA b0 b1;obtain ⟨b0,b1⟩:=uh HKP w2 g2;have cB:=uh HCB w2 h2;have HG2:=hide g2;clear h2 g2))
   go_upto_region 10 with (go_at_call 127;refine cB.mono ?_;rintro e w3 ⟨rfl,h3,g3⟩;clear cB b0 b1;have g4:=uh HGQ _ _ _ (uh HG2) g3;obtain ⟨b0,b1⟩:=uh HKP w3 g4;have cC:=uh HCC w3 h3;have HG3:=hide g4;clear h3 g3 g4)
   go_upto_region 11 with (go_at_call 127;refine cC.mono ?_;rintro e w4 ⟨rfl,h3,g3⟩;clear cC b0 b1;have g4:=uh HGQ _ _ _ (uh HG3) g3;obtain ⟨b0,b1⟩:=uh HKP w4 g4;have cD:=uh HCD w4 h3;have HG4:=hide g4;clear h3 g3 g4)
   go_wp2_with (go_at_call 128;refine cD.mono ?_;rintro e w5 ⟨rfl,h3,g3⟩;clear cD b0 b1;have HG5:=hide (uh HFIN w5 (uh HGQ _ _ _ (uh HG4) g3));have cq:=h3.2.cell 0;simp only[List.getElem?_cons_zero] at cq;have H5:=hide h3.1;clear h3 g3)
   all_goals
    go_ret2
    obtain ⟨hh0,hh12,hhx⟩:=uh HHc
    refine ⟨?_,uh H5,uh HG5⟩
    first
     | (have e0:(s:Int)=0:=eq_of_beq (by assumption);rw[hh0 (by omega)];rfl)
     | (have e1:(s:Int)=12:=eq_of_beq (by assumption);rw[hh12 (by omega)];rfl)
     | (have e0:(s:Int)≠0:=ne_of_beq_false (by assumption);have e1:(s:Int)≠12:=ne_of_beq_false (by assumption);rw[hhx (by omega) (by omega)];rfl)
     | (rw[hh0 (by omega)];rfl)
  ·have h50z:¬ (50:Int)≤(b:Int) - (a:Int):=by omega
   obtain ⟨p,s,e4⟩:∃ u v,median lt d I J K 0=(u,v):=⟨_,_,rfl⟩
   have hraw:rawPivot lt d a b=(p,s):=by simp only[rawPivot,if_pos h8,if_neg h50,← hI,← hJ,← hK,e4]
   have cD:=ziv S W2 d q 0 h2 hq I J K (by omega) (by omega) (by omega) (by omega)
   rw[e4] at cD
   rw[hraw]
   obtain ⟨Hc,hHc⟩:∃ Hc:Int,Hc=hintCode (hintOf s):=⟨_,rfl⟩
   have hh0:s=0→Hc=1:=fun h=>by rw[hHc,h];rfl
   have hh12:s=12→Hc=2:=fun h=>by rw[hHc,h];rfl
   have hhx:s≠0→s≠12→Hc=0:=fun h1 h2=>by rw[hHc];unfold hintOf;rw[if_neg h1,if_neg h2];rfl
   show Calls Tryz.prog 97 _ W fun e w'=>e = .returned (.tuple #[.int .i64 (p:Int),.int .i64 (hintCode (hintOf s))])∧Row blk n w0 d w'∧W.grownBy w' none
   rw[← hHc]
   have HHc:=hide (And.intro hh0 (And.intro hh12 hhx))
   clear hh0 hh12 hhx hHc hraw hra e4 hI hJ hK h2 hkeep hfin gq hfold hBe hqe hq hBq hB12 hB1 hB2 hW1 hW2 g1 g2 hs1 S h hle
   go_enter Tryz.func97,Tryz.ntmps97
   go_wp2_with (first | (rw[← uh HW,← uh HQE,← uh HBE]) | (go_at_call 128;refine cD.mono ?_;rintro e w5 ⟨rfl,h3,g3⟩;clear cD b0 b1;have HG5:=hide (uh HFIN w5 g3);have cq:=h3.2.cell 0;simp only[List.getElem?_cons_zero] at cq;have H5:=hide h3.1;clear h3 g3))
   all_goals
    go_ret2
    obtain ⟨hh0,hh12,hhx⟩:=uh HHc
    refine ⟨?_,uh H5,uh HG5⟩
    first
     | (have e0:(s:Int)=0:=eq_of_beq (by assumption);rw[hh0 (by omega)];rfl)
     | (have e1:(s:Int)=12:=eq_of_beq (by assumption);rw[hh12 (by omega)];rfl)
     | (have e0:(s:Int)≠0:=ne_of_beq_false (by assumption);have e1:(s:Int)≠12:=ne_of_beq_false (by assumption);rw[hhx (by omega) (by omega)];rfl)
     | (rw[hh0 (by omega)];rfl)
 ·have h8z:¬ (8:Int)≤(b:Int) - (a:Int):=by omega
  have hraw:rawPivot lt d a b=(J,0):=by simp only[rawPivot,if_neg h8,← hJ]
  rw[hraw]
  have cq:=h2.2.cell 0
  simp only[List.getElem?_cons_zero,Int.natCast_zero] at cq
  have HG5:=hide (hfin W2 (zab _ _))
  have H5:=hide h2.1
  clear cq hra hraw hI hJ hK h2 hkeep hfin gq hfold hBe hqe hq hBq hB12 hB1 hB2 hW1 hW2 g1 g2 hs1 S h hle
  go_enter Tryz.func97,Tryz.ntmps97
  go_wp2
  go_ret2
  rw[← uh HW]
  exact ⟨rfl,uh H5,uh HG5⟩
end
end Go.Proofs.YtegbbkgmiklhcaaGreatDoor
