/- Lemmas. -/
import Derived.Test.YtegbbkgmiklhcaaGreatDoorSoPin
import Derived.Sort.WalkB2
import Derived.Sort.WalkB3
import Derived.Sort.WalkC
namespace Go.Proofs.YtegbbkgmiklhcaaGreatDoor
open Go.RowKit Go.Shelf Go.Lib Go.Sort
set_option maxRecDepth 100000
section
variable {lt:Nm→Nm→Bool} {g:Nat} {lb:Array Value} {sf:Nat} {sb:Array Value} {blk n:Nat} {w0:World}
set_option maxHeartbeats 8000000 in
theorem zjm (S:Srt lt g lb sf sb blk n w0) (W:World) (d:Array Nm) (h:Row blk n w0 d W) (lo hi first:Nat) (hlo:lo≤hi) (hb:first+hi≤n) :
  Calls Tryz.prog 124 #[dat g lb sf sb,.int .i64 lo,.int .i64 hi,.int .i64 first] W fun e w'=>e = .returned (.tuple #[])∧Row blk n w0 (siftDown lt hi first lo d) w'∧W.grownBy w' (some blk):=by
 obtain ⟨W1,hW1,hB1,g1⟩:=zcd g lb sf sb W
 have h1:Row blk n w0 d W1:=by rw[hW1];exact h.alloc _
 have hbl:=h.inb S
 have hne:W.heap.size≠blk:=by omega
 obtain ⟨B,hBe⟩:∃ B,B=W.heap.size:=⟨_,rfl⟩
 rw[← hBe] at hB1 hne
 have eg:=S.eg
 have hn:=S.hn
 obtain ⟨HW,HS,H1,HB,HG,HBE⟩:=zh6 hW1 S h1 hB1 g1 hBe
 clear hBe hW1 S h h1 hB1 g1 hbl
 go_enter Tryz.func124,Tryz.ntmps124
 go_wp2_with (rw[← uh HW,← uh HBE])
 go_loopg [8] (hi - lo) (fun kx s8 wr=>∃ (root:Nat) (dk:Array Nm),s8 = .int .i64 root∧root≤hi∧Hid (hi - root≤kx)∧Hid (Row blk n w0 dk wr∧W1.grownBy wr (some blk))∧Hid (siftDown lt hi first root dk=siftDown lt hi first lo d))
 case atStart=>exact ⟨lo,d,rfl,hlo,Nat.le_refl _,⟨uh H1,zab _ _⟩,rfl⟩
 case round =>
  obtain ⟨root,dk,rfl,hr,HK,HR,HE⟩:=hrel
  obtain ⟨c0,c1⟩:=zaf (uh HB) hne (uh HR).2
  obtain ⟨j1,hj1⟩:∃ j,j=2*root+1:=⟨_,rfl⟩
  obtain ⟨j2,hj2⟩:∃ j,j=j1+1:=⟨_,rfl⟩
  obtain ⟨f0,hf0⟩:∃ j,j=first+root:=⟨_,rfl⟩
  obtain ⟨f1,hf1⟩:∃ j,j=first+j1:=⟨_,rfl⟩
  obtain ⟨f2,hf2⟩:∃ j,j=first+j2:=⟨_,rfl⟩
  have e1:2*(root:Int)+1=(j1:Int):=by omega
  have e2:(j1:Int)+1=(j2:Int):=by omega
  have e3:(first:Int)+(root:Int)=(f0:Int):=by omega
  have e4:(first:Int)+(j1:Int)=(f1:Int):=by omega
  have e5:(first:Int)+(j2:Int)=(f2:Int):=by omega
  have e6:(f1:Int)+1=(f2:Int):=by omega
  have HJ:=hide (And.intro hj1 (And.intro hj2 (And.intro hf0 (And.intro hf1 hf2))))
  clear hj1 hj2 hf0 hf1 hf2
  by_cases h0:hi≤j1
  ·have h0z:(hi:Int)≤(j1:Int):=by omega
   go_wp2_with fail
   go_end0
   refine ⟨rfl,?_,zaj (zao _ (uh HG)) (uh HR).2⟩
   rw[← uh HE,sd_end lt dk (by have:=uh HJ;omega)]
   exact (uh HR).1
  ·have h0z:¬ ((hi:Int)≤(j1:Int)):=by omega
   by_cases h1:j2<hi
   ·have h1z:(j2:Int)<(hi:Int):=by omega
    cases hL:lt dk[f1]! dk[f2]! with
    | true =>
     cases hG:lt dk[f0]! dk[f2]! with
     | true =>
      have hl1:=(uh HS).less_at (uh HR).1 f1 f2 (f1:Int) (f2:Int) rfl rfl (by have:=uh HJ;omega) (by have:=uh HJ;omega) true hL
      have hk2:∀ w2,Row blk n w0 dk w2→Calls Tryz.prog g (#[.int .i64 (f0:Int),.int .i64 (f2:Int)]++lb) w2 fun e w'=>e = .returned (.bool true)∧Row blk n w0 dk w'∧w2.grownBy w' none:=fun w2 hr2=>(uh HS).less_at hr2 f0 f2 (f0:Int) (f2:Int) rfl rfl (by have:=uh HJ;omega) (by have:=uh HJ;omega) true hG
      have HK2:=hide hk2
      clear hk2
      go_wp2_with (first
       | (go_at_fn g;refine hl1.mono ?_;rintro e w2 ⟨rfl,hR2,g2⟩;clear hl1 c0 c1;obtain ⟨c0,c1⟩:=zaf (uh HB) hne (tn (uh HR).2 g2);have hl2:=uh HK2 w2 hR2;have HG2:=hide (tn (uh HR).2 g2);clear hR2 g2)
       | (go_at_fn g;refine hl2.mono ?_;rintro e w3 ⟨rfl,hR3,g3⟩;clear hl2 c0 c1;obtain ⟨c0,c1⟩:=zaf (uh HB) hne (tn (uh HG2) g3);have HR3:=hide hR3;have HG3:=hide (tn (uh HG2) g3);clear hR3 g3))
      obtain ⟨V,hs,hR4,g4⟩:=(uh HS).swap_at (uh HR3) f0 f2 (f0:Int) (f2:Int) rfl rfl (by have:=uh HJ;omega) (by have:=uh HJ;omega)
      rw[hs,Oper.upon_value]
      have HR4:=hide hR4
      have HG4:=hide (zaj (uh HG3) g4)
      clear hs hR4 g4 c0 c1
      go_wp2_with fail
      go_roundg (hi - j2)
      case measure=>have:=uh HK;have:=uh HJ;omega
      case rel =>
       refine ⟨j2,swp dk f0 f2,rfl,by omega,Nat.le_refl _,⟨uh HR4,uh HG4⟩,?_⟩
       show _=_
       rw[← uh HE,sd_right_go lt dk (by have:=uh HJ;omega) (by have:=uh HJ;rw[show first+(2*root+1)=f1 by omega,show first+(2*root+2)=f2 by omega];exact hL) (by have:=uh HJ;rw[show first+root=f0 by omega,show first+(2*root+2)=f2 by omega];exact hG)]
       have:=uh HJ
       rw[show 2*root+2=j2 by omega,show first+root=f0 by omega,show first+j2=f2 by omega]
     | false =>
      have hl1:=(uh HS).less_at (uh HR).1 f1 f2 (f1:Int) (f2:Int) rfl rfl (by have:=uh HJ;omega) (by have:=uh HJ;omega) true hL
      have hk2:∀ w2,Row blk n w0 dk w2→Calls Tryz.prog g (#[.int .i64 (f0:Int),.int .i64 (f2:Int)]++lb) w2 fun e w'=>e = .returned (.bool false)∧Row blk n w0 dk w'∧w2.grownBy w' none:=fun w2 hr2=>(uh HS).less_at hr2 f0 f2 (f0:Int) (f2:Int) rfl rfl (by have:=uh HJ;omega) (by have:=uh HJ;omega) false hG
      have HK2:=hide hk2
      clear hk2
      go_wp2_with (first
       | (go_at_fn g;refine hl1.mono ?_;rintro e w2 ⟨rfl,hR2,g2⟩;clear hl1 c0 c1;obtain ⟨c0,c1⟩:=zaf (uh HB) hne (tn (uh HR).2 g2);have hl2:=uh HK2 w2 hR2;have HG2:=hide (tn (uh HR).2 g2);clear hR2 g2)
       | (go_at_fn g;refine hl2.mono ?_;rintro e w3 ⟨rfl,hR3,g3⟩;clear hl2 c0 c1;obtain ⟨c0,c1⟩:=zaf (uh HB) hne (tn (uh HG2) g3);have HR3:=hide hR3;have HG3:=hide (tn (uh HG2) g3);clear hR3 g3))
      (try simp only[Exit.inBlock,Exit.then])
      refine bodyPost_ret (results_none rfl _ _ _) rfl ?_
      refine ⟨rfl,?_,zaj (zao _ (uh HG)) (uh HG3)⟩
      rw[← uh HE,sd_right_stop lt dk (by have:=uh HJ;omega) (by have:=uh HJ;rw[show first+(2*root+1)=f1 by omega,show first+(2*root+2)=f2 by omega];exact hL) (by have:=uh HJ;rw[show first+root=f0 by omega,show first+(2*root+2)=f2 by omega];exact hG)]
      exact uh HR3
    | false =>
     cases hG:lt dk[f0]! dk[f1]! with
     | true =>
      have hl1:=(uh HS).less_at (uh HR).1 f1 f2 (f1:Int) (f2:Int) rfl rfl (by have:=uh HJ;omega) (by have:=uh HJ;omega) false hL
      have hk2:∀ w2,Row blk n w0 dk w2→Calls Tryz.prog g (#[.int .i64 (f0:Int),.int .i64 (f1:Int)]++lb) w2 fun e w'=>e = .returned (.bool true)∧Row blk n w0 dk w'∧w2.grownBy w' none:=fun w2 hr2=>(uh HS).less_at hr2 f0 f1 (f0:Int) (f1:Int) rfl rfl (by have:=uh HJ;omega) (by have:=uh HJ;omega) true hG
      have HK2:=hide hk2
      clear hk2
      go_wp2_with (first
       | (go_at_fn g;refine hl1.mono ?_;rintro e w2 ⟨rfl,hR2,g2⟩;clear hl1 c0 c1;obtain ⟨c0,c1⟩:=zaf (uh HB) hne (tn (uh HR).2 g2);have hl2:=uh HK2 w2 hR2;have HG2:=hide (tn (uh HR).2 g2);clear hR2 g2)
       | (go_at_fn g;refine hl2.mono ?_;rintro e w3 ⟨rfl,hR3,g3⟩;clear hl2 c0 c1;obtain ⟨c0,c1⟩:=zaf (uh HB) hne (tn (uh HG2) g3);have HR3:=hide hR3;have HG3:=hide (tn (uh HG2) g3);clear hR3 g3))
      obtain ⟨V,hs,hR4,g4⟩:=(uh HS).swap_at (uh HR3) f0 f1 (f0:Int) (f1:Int) rfl rfl (by have:=uh HJ;omega) (by have:=uh HJ;omega)
      rw[hs,Oper.upon_value]
      have HR4:=hide hR4
      have HG4:=hide (zaj (uh HG3) g4)
      clear hs hR4 g4 c0 c1
      go_wp2_with fail
      go_roundg (hi - j1)
      case measure=>have:=uh HK;have:=uh HJ;omega
      case rel =>
       refine ⟨j1,swp dk f0 f1,rfl,by omega,Nat.le_refl _,⟨uh HR4,uh HG4⟩,?_⟩
       show _=_
       rw[← uh HE,sd_left_go lt dk (by have:=uh HJ;omega) (fun _=>by have:=uh HJ;rw[show first+(2*root+1)=f1 by omega,show first+(2*root+2)=f2 by omega];exact hL) (by have:=uh HJ;rw[show first+root=f0 by omega,show first+(2*root+1)=f1 by omega];exact hG)]
       have:=uh HJ
       rw[show 2*root+1=j1 by omega,show first+root=f0 by omega,show first+j1=f1 by omega]
     | false =>
      have hl1:=(uh HS).less_at (uh HR).1 f1 f2 (f1:Int) (f2:Int) rfl rfl (by have:=uh HJ;omega) (by have:=uh HJ;omega) false hL
      have hk2:∀ w2,Row blk n w0 dk w2→Calls Tryz.prog g (#[.int .i64 (f0:Int),.int .i64 (f1:Int)]++lb) w2 fun e w'=>e = .returned (.bool false)∧Row blk n w0 dk w'∧w2.grownBy w' none:=fun w2 hr2=>(uh HS).less_at hr2 f0 f1 (f0:Int) (f1:Int) rfl rfl (by have:=uh HJ;omega) (by have:=uh HJ;omega) false hG
      have HK2:=hide hk2
      clear hk2
      go_wp2_with (first
       | (go_at_fn g;refine hl1.mono ?_;rintro e w2 ⟨rfl,hR2,g2⟩;clear hl1 c0 c1;obtain ⟨c0,c1⟩:=zaf (uh HB) hne (tn (uh HR).2 g2);have hl2:=uh HK2 w2 hR2;have HG2:=hide (tn (uh HR).2 g2);clear hR2 g2)
       | (go_at_fn g;refine hl2.mono ?_;rintro e w3 ⟨rfl,hR3,g3⟩;clear hl2 c0 c1;obtain ⟨c0,c1⟩:=zaf (uh HB) hne (tn (uh HG2) g3);have HR3:=hide hR3;have HG3:=hide (tn (uh HG2) g3);clear hR3 g3))
      (try simp only[Exit.inBlock,Exit.then])
      refine bodyPost_ret (results_none rfl _ _ _) rfl ?_
      refine ⟨rfl,?_,zaj (zao _ (uh HG)) (uh HG3)⟩
      rw[← uh HE,sd_left_stop lt dk (by have:=uh HJ;omega) (fun _=>by have:=uh HJ;rw[show first+(2*root+1)=f1 by omega,show first+(2*root+2)=f2 by omega];exact hL) (by have:=uh HJ;rw[show first+root=f0 by omega,show first+(2*root+1)=f1 by omega];exact hG)]
      exact uh HR3
   ·have h1z:¬ ((j2:Int)<(hi:Int)):=by omega
    cases hG:lt dk[f0]! dk[f1]! with
    | true =>
     have hl2:=(uh HS).less_at (uh HR).1 f0 f1 (f0:Int) (f1:Int) rfl rfl (by have:=uh HJ;omega) (by have:=uh HJ;omega) true hG
     go_wp2_with (go_at_fn g;refine hl2.mono ?_;rintro e w3 ⟨rfl,hR3,g3⟩;clear hl2 c0 c1;obtain ⟨c0,c1⟩:=zaf (uh HB) hne (tn (uh HR).2 g3);have HR3:=hide hR3;have HG3:=hide (tn (uh HR).2 g3);clear hR3 g3)
     obtain ⟨V,hs,hR4,g4⟩:=(uh HS).swap_at (uh HR3) f0 f1 (f0:Int) (f1:Int) rfl rfl (by have:=uh HJ;omega) (by have:=uh HJ;omega)
     rw[hs,Oper.upon_value]
     have HR4:=hide hR4
     have HG4:=hide (zaj (uh HG3) g4)
     clear hs hR4 g4 c0 c1
     go_wp2_with fail
     go_roundg (hi - j1)
     case measure=>have:=uh HK;have:=uh HJ;omega
     case rel =>
      refine ⟨j1,swp dk f0 f1,rfl,by omega,Nat.le_refl _,⟨uh HR4,uh HG4⟩,?_⟩
      show _=_
      rw[← uh HE,sd_left_go lt dk (by have:=uh HJ;omega) (fun hh=>absurd hh (by have:=uh HJ;omega)) (by have:=uh HJ;rw[show first+root=f0 by omega,show first+(2*root+1)=f1 by omega];exact hG)]
      have:=uh HJ
      rw[show 2*root+1=j1 by omega,show first+root=f0 by omega,show first+j1=f1 by omega]
    | false =>
     have hl2:=(uh HS).less_at (uh HR).1 f0 f1 (f0:Int) (f1:Int) rfl rfl (by have:=uh HJ;omega) (by have:=uh HJ;omega) false hG
     go_wp2_with (go_at_fn g;refine hl2.mono ?_;rintro e w3 ⟨rfl,hR3,g3⟩;clear hl2 c0 c1;obtain ⟨c0,c1⟩:=zaf (uh HB) hne (tn (uh HR).2 g3);have HR3:=hide hR3;have HG3:=hide (tn (uh HR).2 g3);clear hR3 g3)
     (try simp only[Exit.inBlock,Exit.then])
     refine bodyPost_ret (results_none rfl _ _ _) rfl ?_
     refine ⟨rfl,?_,zaj (zao _ (uh HG)) (uh HG3)⟩
     rw[← uh HE,sd_left_stop lt dk (by have:=uh HJ;omega) (fun hh=>absurd hh (by have:=uh HJ;omega)) (by have:=uh HJ;rw[show first+root=f0 by omega,show first+(2*root+1)=f1 by omega];exact hG)]
     exact uh HR3
end
section
variable {lt:Nm→Nm→Bool} {g:Nat} {lb:Array Value} {sf:Nat} {sb:Array Value} {blk n:Nat} {w0:World}
set_option maxHeartbeats 4000000 in
theorem zod (S:Srt lt g lb sf sb blk n w0) (W:World) (d:Array Nm) (h:Row blk n w0 d W) (a b:Nat) (hab:a≤b) (hb:b≤n) :
  Calls Tryz.prog 95 #[dat g lb sf sb,.int .i64 a,.int .i64 b] W fun e w'=>e = .returned (.tuple #[])∧Row blk n w0 (heapSort lt d a b) w'∧W.grownBy w' (some blk):=by
 obtain ⟨W1,hW1,hB1,g1⟩:=zcd g lb sf sb W
 have h1:Row blk n w0 d W1:=by rw[hW1];exact h.alloc _
 have hbl:=h.inb S
 have hne:W.heap.size≠blk:=by omega
 obtain ⟨B,hBe⟩:∃ B,B=W.heap.size:=⟨_,rfl⟩
 rw[← hBe] at hB1 hne
 have hn:=S.hn
 have ecast:(b:Int) - (a:Int)=((b - a:Nat):Int):=by omega
 obtain ⟨HW,HS,H1,HB,HG,HBE⟩:=zh6 hW1 S h1 hB1 g1 hBe
 clear hBe hW1 S h h1 hB1 g1 hbl
 obtain ⟨hi,hhi⟩:∃ hi,hi=b - a:=⟨_,rfl⟩
 have e1:(b:Int) - (a:Int)=(hi:Int):=by omega
 have e2:((hi:Int) - 1).tdiv 2=(((hi - 1) / 2+1:Nat):Int) - 1:=by rw[← e1];rw[half_start hab,hhi]
 obtain ⟨K,hK⟩:∃ K,K=(hi - 1) / 2+1:=⟨_,rfl⟩
 rw[← hK] at e2
 have hKb:K<4611686018427387904:=by omega
 have hK1:1≤K:=by omega
 have hib:hi<4611686018427387904:=by omega
 have HH:=hide (And.intro hhi hK)
 have e0:heapSort lt d a b=heapPop lt a hi (heapBuild lt hi a K d):=by rw[hhi,hK,hhi];rfl
 rw[e0]
 clear hhi hK ecast e0
 go_enter Tryz.func95,Tryz.ntmps95
 go_wp2_with (rw[← uh HW,← uh HBE])
 go_loopg [9] K (fun kx s9 wr=>s9 = .int .i64 ((kx:Int) - 1)∧kx≤K∧∃ (dk:Array Nm),Hid (Row blk n w0 dk wr∧W1.grownBy wr (some blk))∧Hid (heapBuild lt hi a kx dk=heapBuild lt hi a K d))
 case atStart=>exact ⟨by first | rfl | rw[e2],Nat.le_refl _,d,⟨uh H1,zab _ _⟩,rfl⟩
 case round =>
  obtain ⟨rfl,hkk,dk,HR,HE⟩:=hrel
  cases gk with
  | zero =>
   have hB:Hid (dk=heapBuild lt hi a K d):=uh HE
   clear HE hkk
   go_wp2_with fail
   go_loopg [10] hi (fun kx s10 wr=>s10 = .int .i64 ((kx:Int) - 1)∧kx≤hi∧∃ (dj:Array Nm),Hid (Row blk n w0 dj wr∧W1.grownBy wr (some blk))∧Hid (heapPop lt a kx dj=heapPop lt a hi dk))
   case atStart=>exact ⟨rfl,Nat.le_refl _,dk,HR,rfl⟩
   case round =>
    obtain ⟨rfl,hkk,dj,HJ,HE⟩:=hrel
    cases gk with
    | zero =>
     go_wp2_with fail
     go_end0
     refine ⟨rfl,?_,zaj (zao _ (uh HG)) (uh HJ).2⟩
     rw[← uh hB,← uh HE]
     exact (uh HJ).1
    | succ kx =>
     obtain ⟨c0,c1⟩:=zaf (uh HB) hne (uh HJ).2
     have e7:((kx+1:Nat):Int) - 1=(kx:Int):=by omega
     obtain ⟨ak,hak⟩:∃ j,j=a+kx:=⟨_,rfl⟩
     have e8:(a:Int)+(kx:Int)=(ak:Int):=by omega
     have hlo:kx<hi:=by omega
     have HA:=hide hak
     clear hak
     obtain ⟨V,hs,hR4,g4⟩:=(uh HS).swap_at (uh HJ).1 a ak (a:Int) (ak:Int) rfl rfl (by have:=uh HA;have:=uh HH;omega) (by have:=uh HA;have:=uh HH;omega)
     have hc:=zjm (uh HS) V _ hR4 0 kx a (Nat.zero_le _) (by have:=uh HH;omega)
     obtain ⟨v0,v1⟩:=zaf (uh HB) hne (zaj (uh HJ).2 g4)
     have HG4:=hide (zaj (uh HJ).2 g4)
     clear hR4 g4
     rw[e7]
     go_wp2_with (go_at_call 124;refine hc.mono ?_;rintro e w5 ⟨rfl,hR5,g5⟩;have HR5:=hide hR5;have HG5:=hide (zaj (uh HG4) g5);clear hc hR5 g5)
     go_roundg kx
     case measure=>omega
     case rel=>exact ⟨rfl,by omega,siftDown lt kx a 0 (swp dj a ak),⟨uh HR5,uh HG5⟩,by show _=_;rw[← uh HE,uh HA];rfl⟩
  | succ kx =>
   obtain ⟨c0,c1⟩:=zaf (uh HB) hne (uh HR).2
   have e7:((kx+1:Nat):Int) - 1=(kx:Int):=by omega
   have hc:=zjm (uh HS) wr _ (uh HR).1 kx hi a (by have:=uh HH;omega) (by have:=uh HH;omega)
   rw[e7]
   go_wp2_with (go_at_call 124;refine hc.mono ?_;rintro e w5 ⟨rfl,hR5,g5⟩;have HR5:=hide hR5;have HG5:=hide (zaj (uh HR).2 g5);clear hc hR5 g5)
   go_roundg kx
   case measure=>omega
   case rel=>exact ⟨rfl,by omega,siftDown lt hi a kx dk,⟨uh HR5,uh HG5⟩,HE⟩
end
section
variable {lt:Nm→Nm→Bool} {g:Nat} {lb:Array Value} {sf:Nat} {sb:Array Value} {blk n:Nat} {w0:World}
set_option maxHeartbeats 8000000 in
theorem zpw (S:Srt lt g lb sf sb blk n w0) (W:World) (d:Array Nm) (h:Row blk n w0 d W) (a b pivot:Nat) (hap:a≤pivot) (hpb:pivot<b) (hb:b≤n) :
  Calls Tryz.prog 100 #[dat g lb sf sb,.int .i64 a,.int .i64 b,.int .i64 pivot] W fun e w'=>e = .returned (.int .i64 (Sort.partitionEqual lt d a b pivot).1)∧Row blk n w0 (Sort.partitionEqual lt d a b pivot).2 w'∧W.grownBy w' (some blk):=by
 obtain ⟨W1,hW1,hB1,g1⟩:=zcd g lb sf sb W
 have h1:Row blk n w0 d W1:=by rw[hW1];exact h.alloc _
 have hbl:=h.inb S
 have hne:W.heap.size≠blk:=by omega
 obtain ⟨B,hBe⟩:∃ B,B=W.heap.size:=⟨_,rfl⟩
 rw[← hBe] at hB1 hne
 have eg:=S.eg
 have hn:=S.hn
 obtain ⟨V,hs,hRV,gV⟩:=S.swap_at h1 a pivot (a:Int) (pivot:Int) rfl rfl (by omega) (by omega)
 obtain ⟨c0,c1⟩:=zaf hB1 hne (zab W1 (some blk))
 obtain ⟨v0,v1⟩:=zaf hB1 hne gV
 obtain ⟨HW,HS,HRV,HGV,HB,HG⟩:=zh6 hW1 S hRV gV hB1 g1
 have HBE:=hide hBe
 clear hBe hW1 S h h1 hB1 g1 hbl hRV gV
 go_enter Tryz.func100,Tryz.ntmps100
 go_wp2_with (rw[← uh HW,← uh HBE])
 clear c0 c1 v0 v1 hs
 go_loopw [9,10] (fun vi vj wr=>∃ (i j:Nat) (dk:Array Nm),vi = .int .i64 i∧vj = .int .i64 j∧a<i∧i≤j+1∧j<b∧Hid (Row blk n w0 dk wr∧W1.grownBy wr (some blk))∧Hid (partEqLoop lt a i j dk=partEqLoop lt a (a+1) (b - 1) (swp d a pivot)))
  (fun vi vj _=>(intOf vj).toNat+1 - (intOf vi).toNat)
 case atStart=>exact ⟨a+1,b - 1,swp d a pivot,by go_num,by go_num,by omega,by omega,by omega,⟨uh HRV,uh HGV⟩,rfl⟩
 case round =>
  obtain ⟨i,j,dk,rfl,rfl,hai,hij,hjb,HR,AE⟩:=hrel
  clear HRV HGV
  obtain ⟨W2,hW2⟩:∃ X,X=wr:=⟨_,rfl⟩
  rw[← hW2]
  rw[← hW2] at HR
  clear hW2
  go_wp2_with fail
  go_loopw [9] (fun vi wr=>∃ (i' : Nat),vi = .int .i64 i'∧i≤i'∧i'≤j+1∧Hid (Row blk n w0 dk wr∧W1.grownBy wr (some blk))∧Hid (scanUp (fun x => !lt dk[a]! x) dk j i'=scanUp (fun x => !lt dk[a]! x) dk j i))
   (fun vi _=>j+1 - (intOf vi).toNat)
  case atStart=>exact ⟨i,rfl,Nat.le_refl _,hij,HR,rfl⟩
  case round =>
   obtain ⟨i',rfl,hii,hij',HJ,hsc⟩:=hrel
   clear HR
   obtain ⟨c0,c1⟩:=zaf (uh HB) hne (uh HJ).2
   by_cases hle:i'≤j
   ·have hlez:(i' : Int)≤(j:Int):=by omega
    cases hlv:lt dk[a]! dk[i']! with
    | false =>
     have hl:=(uh HS).less_at (uh HJ).1 a i' (a:Int) (i' : Int) rfl rfl (by omega) (by omega) false hlv
     go_wp2_with (go_at_fn g;refine hl.mono ?_;rintro e w2 ⟨rfl,hR2,g2⟩;clear hl;have HR2:=hide (And.intro hR2 (tn (uh HJ).2 g2));clear hR2 g2)
     go_roundw
     case rel=>exact ⟨i'+1,by go_num,by omega,by omega,HR2,(scanUp_go (fun x => !lt dk[a]! x) dk j i' hle (by simp[hlv])).symm.trans (uh hsc)⟩
     case measure=>simp[intOf];omega
    | true =>
     have hl:=(uh HS).less_at (uh HJ).1 a i' (a:Int) (i' : Int) rfl rfl (by omega) (by omega) true hlv
     have hi2:Hid (i'=scanUp (fun x => !lt dk[a]! x) dk j i):=(scanUp_end (fun x => !lt dk[a]! x) dk j i' (Or.inr (by simp[hlv]))).symm.trans (uh hsc)
     go_wp2_with (go_at_fn g;refine hl.mono ?_;rintro e w2 ⟨rfl,hR2,g2⟩;clear hl;have HR2:=hide (And.intro hR2 (tn (uh HJ).2 g2));clear hR2 g2)
     clear c0 c1 HJ hsc
     go_loopw [10] (fun vj wr=>∃ (j' : Nat),vj = .int .i64 j'∧j'≤j∧i'≤j'+1∧Hid (Row blk n w0 dk wr∧W1.grownBy wr (some blk))∧Hid (scanDown (fun x=>lt dk[a]! x) dk i' j'=scanDown (fun x=>lt dk[a]! x) dk i' j))
      (fun vj _=>(intOf vj).toNat)
     case atStart=>exact ⟨j,rfl,Nat.le_refl _,hij',HR2,rfl⟩
     case round =>
      obtain ⟨j',rfl,hjj,hij2,HJ,hsd⟩:=hrel
      clear HR2
      obtain ⟨c0,c1⟩:=zaf (uh HB) hne (uh HJ).2
      by_cases hle2:i'≤j'
      ·have hlez2:(i' : Int)≤(j' : Int):=by omega
       cases hlv2:lt dk[a]! dk[j']! with
       | true =>
        have hl:=(uh HS).less_at (uh HJ).1 a j' (a:Int) (j' : Int) rfl rfl (by omega) (by omega) true hlv2
        go_wp2_with (go_at_fn g;refine hl.mono ?_;rintro e w3 ⟨rfl,hR2,g2⟩;clear hl;have HR2:=hide (And.intro hR2 (tn (uh HJ).2 g2));clear hR2 g2)
        go_roundw
        case rel=>exact ⟨j' - 1,by go_num,by omega,by omega,HR2,(scanDown_go (fun x=>lt dk[a]! x) dk i' j' hle2 (by omega) hlv2).symm.trans (uh hsd)⟩
        case measure=>simp[intOf];omega
       | false =>
        have hl:=(uh HS).less_at (uh HJ).1 a j' (a:Int) (j' : Int) rfl rfl (by omega) (by omega) false hlv2
        have hj2:Hid (j'=scanDown (fun x=>lt dk[a]! x) dk i' j):=(scanDown_end (fun x=>lt dk[a]! x) dk i' j' (Or.inr hlv2)).symm.trans (uh hsd)
        have hlt3:=scans_lt lt a i j dk (by omega) (uh hi2) (uh hj2) hle2
        clear hsd
        go_wp2_with (go_at_fn g;refine hl.mono ?_;rintro e w3 ⟨rfl,hR2,g2⟩;clear hl;have g3:=tn (uh HJ).2 g2;obtain ⟨V,hs,hR4,g4⟩:=(uh HS).swap_at hR2 i' j' (i' : Int) (j' : Int) rfl rfl (by omega) (by omega);clear c0 c1;obtain ⟨c0,c1⟩:=zaf (uh HB) hne g3;have HR4:=hide (And.intro hR4 (zaj g3 g4));clear hR2 g2 hR4 g4 g3)
        go_roundw
        case rel =>
         refine ⟨i'+1,j' - 1,swp dk i' j',by go_num,by go_num,by omega,by omega,by omega,HR4,?_⟩
         show _=_
         rw[← uh AE];exact (partEq_go lt a i j dk (uh hi2) (uh hj2) (by omega)).symm
        case measure=>simp[intOf];omega
      ·have hj2:Hid (j'=scanDown (fun x=>lt dk[a]! x) dk i' j):=(scanDown_end (fun x=>lt dk[a]! x) dk i' j' (Or.inl hle2)).symm.trans (uh hsd)
       clear hsd
       go_wp2_with fail
       go_ret
       have e:=partEq_break lt a i j dk (uh hi2) (uh hj2) (by omega)
       refine ⟨?_,?_,zaj (zao _ (uh HG)) (uh HJ).2⟩
       ·unfold Sort.partitionEqual;rw[← uh AE,e];rfl
       ·unfold Sort.partitionEqual;rw[← uh AE,e];exact (uh HJ).1
   ·have hlez:¬ (i' : Int)≤(j:Int):=by omega
    have hi2:Hid (i'=scanUp (fun x => !lt dk[a]! x) dk j i):=(scanUp_end (fun x => !lt dk[a]! x) dk j i' (Or.inl hle)).symm.trans (uh hsc)
    go_wp2_with fail
    clear c0 c1 hsc
    go_loopw [10] (fun vj wr=>∃ (j' : Nat),vj = .int .i64 j'∧j'≤j∧i'≤j'+1∧Hid (Row blk n w0 dk wr∧W1.grownBy wr (some blk))∧Hid (scanDown (fun x=>lt dk[a]! x) dk i' j'=scanDown (fun x=>lt dk[a]! x) dk i' j))
     (fun vj _=>(intOf vj).toNat)
    case atStart=>exact ⟨j,rfl,Nat.le_refl _,hij',HJ,rfl⟩
    case round =>
     obtain ⟨j',rfl,hjj,hij2,HK,hsd⟩:=hrel
     have hle2:¬ i'≤j':=by omega
     have hlez2:¬ (i' : Int)≤(j' : Int):=by omega
     have hj2:Hid (j'=scanDown (fun x=>lt dk[a]! x) dk i' j):=(scanDown_end (fun x=>lt dk[a]! x) dk i' j' (Or.inl hle2)).symm.trans (uh hsd)
     clear hsd
     go_wp2_with fail
     go_ret
     have e:=partEq_break lt a i j dk (uh hi2) (uh hj2) (by omega)
     refine ⟨?_,?_,zaj (zao _ (uh HG)) (uh HK).2⟩
     ·unfold Sort.partitionEqual;rw[← uh AE,e];rfl
     ·unfold Sort.partitionEqual;rw[← uh AE,e];exact (uh HK).1
end
end Go.Proofs.YtegbbkgmiklhcaaGreatDoor
