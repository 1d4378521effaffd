/- Lemmas. -/
import Derived.Test.YtegbbkgmiklhcaaGreatDoorGCm0
import Derived.Shelf.SlSortFuncK.SWK
import Derived.Shelf.SlSortFuncK.BreakPatternsK
import Derived.Sort.WalkA6
import Derived.Sort.LotA
namespace Go.Proofs.YtegbbkgmiklhcaaGreatDoor
open Go.RowKit Go.Shelf Go.Lib Go.Sort
set_option maxRecDepth 100000
def zpt (lt:Nm→Nm→Bool) (g:Nat) (lb:Array Value) (blk n:Nat) (w0:World):Prop :=
 ∀ (m:Nat) (os:Array Obj) (dk:Array Nm),dk.size=n→∀ i j:Nat,i<n→j<n →
  Calls Tryz.prog g (#[.int .i64 i,.int .i64 j]++lb) (sortWorldK encN 32 w0 blk 0 m dk os) fun e w'=>e = .returned (.bool (lt dk[i]! dk[j]!))∧∃ q os',w'=grow ((sortWorldK encN 32 w0 blk 0 m dk os).drewN q) os'
structure Srt (lt:Nm→Nm→Bool) (g:Nat) (lb:Array Value) (sf:Nat) (sb:Array Value) (blk n:Nat) (w0:World):Prop where
 eg:∀ args w,(callFunc g args).run Tryz.prog w = .ok (.enter g args) w
 hn:n<4611686018427387904
 base:∃ d0:Array Nm,d0.size=n∧HoldsK encN 32 w0 blk 0 d0
 inb:blk<w0.heap.size
 less:zpt lt g lb blk n w0
 swap:SwapSwapsK Tryz.prog sf sb encN 32 blk 0 n
def Row (blk n:Nat) (w0:World) (d:Array Nm) (V:World):Prop:=d.size=n∧SWK encN 32 w0 blk 0 d V
abbrev dat (g:Nat) (lb:Array Value) (sf:Nat) (sb:Array Value):Value := .agg #[.func (.func g) #[] lb,.func (.func sf) #[] sb]
theorem zg3 (V:World) (blk m:Nat) (d:Array Nm) (os:Array Obj):V.grownBy (sortWorldK encN 32 V blk 0 m d os) (some blk):=by
 refine ⟨rfl,rfl,rfl,?_,fun k hk hne => ?_⟩
 ·unfold sortWorldK putRowK putRow mapBlock grow
  simp[Sort.ahead]
 ·have hb:blk≠k:=fun e=>hne (by rw[e])
  unfold sortWorldK putRowK putRow mapBlock grow
  simp only[Sort.ahead]
  rw[Array.getElem?_append_left (by simpa using hk)]
  simp[Array.getElem?_modify,hb]
section
variable {lt:Nm→Nm→Bool} {g:Nat} {lb:Array Value} {sf:Nat} {sb:Array Value} {blk n:Nat} {w0 V:World} {d:Array Nm}
theorem Row.alloc (h:Row blk n w0 d V) (o:Obj):Row blk n w0 d (V.alloc o):=⟨h.1,h.2.alloc o⟩
theorem Row.drewN (h:Row blk n w0 d V) (q:Nat):Row blk n w0 d (V.drewN q):=⟨h.1,h.2.drewN q⟩
theorem Row.grow (h:Row blk n w0 d V) (q:Nat) (os:Array Obj):Row blk n w0 d (grow (V.drewN q) os):=by
 obtain ⟨h1,m,o1,rfl⟩:=h
 refine ⟨h1,m+q,o1++os,?_⟩
 unfold sortWorldK
 show Sort.grow (Sort.grow ((putRowK encN 32 (Sort.ahead w0 m) blk 0 d).drewN q) o1) os=_
 rw[grow_grow,putRowK_drewN]
theorem Row.inb (h:Row blk n w0 d V) (S:Srt lt g lb sf sb blk n w0):blk<V.heap.size:=h.2.lt S.inb
theorem Row.set (h:Row blk n w0 d V) (b o:Nat) (v:Value) (hb:w0.heap.size≤b):Row blk n w0 d (V.setCell ⟨b,o,none⟩ v):=⟨h.1,h.2.setCell_new b o v hb⟩
theorem Row.le (h:Row blk n w0 d V):w0.heap.size≤V.heap.size:=h.2.le
theorem Row.holds (h:Row blk n w0 d V) (S:Srt lt g lb sf sb blk n w0):HoldsK encN 32 V blk 0 d:=by
 obtain ⟨d0,h1,h2⟩:=S.base
 exact h.2.holds S.inb h2 (by rw[h.1,h1])
theorem Row.on (h:Row blk n w0 d V) (S:Srt lt g lb sf sb blk n w0) {d' : Array Nm} (hs:d'.size=d.size) (m:Nat) (os:Array Obj):Row blk n w0 d' (sortWorldK encN 32 V blk 0 m d' os):=⟨by rw[hs,h.1],h.2.on S.inb m d' os hs⟩
theorem Srt.less_grow (S:Srt lt g lb sf sb blk n w0) (h:Row blk n w0 d V) (i j:Nat) (hi:i<n) (hj:j<n) :
  Calls Tryz.prog g (#[.int .i64 i,.int .i64 j]++lb) V fun e w'=>e = .returned (.bool (lt d[i]! d[j]!))∧∃ q os',w'=Sort.grow (V.drewN q) os':=by
 obtain ⟨h1,m,os,rfl⟩:=h
 exact S.less m os d h1 i j hi hj
theorem Srt.less_at (S:Srt lt g lb sf sb blk n w0) (h:Row blk n w0 d V) (i j:Nat) (zi zj:Int) (ei:zi=(i:Int)) (ej:zj=(j:Int)) (hi:i<n) (hj:j<n) (r:Bool) (hr:lt d[i]! d[j]! = r) :
  Calls Tryz.prog g (#[.int .i64 zi,.int .i64 zj]++lb) V fun e w'=>e = .returned (.bool r)∧Row blk n w0 d w'∧V.grownBy w' none:=by
 subst ei ej hr
 refine (S.less_grow h i j hi hj).mono ?_
 rintro e w' ⟨rfl,q,os,rfl⟩
 exact ⟨rfl,h.grow q os,zfu V q os⟩
theorem Srt.swap_at (S:Srt lt g lb sf sb blk n w0) (h:Row blk n w0 d V) (i j:Nat) (zi zj:Int) (ei:zi=(i:Int)) (ej:zj=(j:Int)) (hi:i<n) (hj:j<n) :
  ∃ V',(callFunc sf (#[.int .i64 zi,.int .i64 zj]++sb)).run Tryz.prog V = .ok (.value (.tuple #[])) V'∧Row blk n w0 (swp d i j) V'∧V.grownBy V' (some blk):=by
 subst ei ej
 refine ⟨_,S.swap V d (h.holds S) h.1 i j hi hj,⟨by rw[size_swp];exact h.1,h.2.swap zci S.inb i j (by rw[h.1];exact hi) (by rw[h.1];exact hj)⟩,?_⟩
 exact za0 (Or.inr rfl) _ _ (za0 (Or.inr rfl) _ _ (zab V _))
end
theorem zcd (g:Nat) (lb:Array Value) (sf:Nat) (sb:Array Value) (W:World):∃ W1,W1=W.alloc (.cells #[.func (.func g) #[] lb,.func (.func sf) #[] sb] 132)∧Blk W1 W.heap.size 132 [.func (.func g) #[] lb,.func (.func sf) #[] sb]∧W.grownBy W1 none :=
 zah W _ _
section
variable {lt:Nm→Nm→Bool} {g:Nat} {lb:Array Value} {sf:Nat} {sb:Array Value} {blk n:Nat} {w0:World}
theorem zaf {W1 wr:World} {B:Nat} {x y:Value} (hB:Blk W1 B 132 [x,y]) (hne:B≠blk) (g1:W1.grownBy wr (some blk)):wr.cell? ⟨B,0,none⟩=some x∧wr.cell? ⟨B,1,none⟩=some y:=by
 have h:=hB.kept g1 (fun e=>hne (by injection e))
 exact ⟨h.cell 0,h.cell 1⟩
theorem zaj {x y z:World} (h:x.grownBy y (some blk)) (k:y.grownBy z (some blk)):x.grownBy z (some blk):=zac h k (fun _ e=>Or.inr e)
set_option maxHeartbeats 4000000 in
theorem zpu (S:Srt lt g lb sf sb blk n w0) (W:World) (d:Array Nm) (h:Row blk n w0 d W) (a b:Nat) (hab:a≤b) (hb:b≤n) :
  Calls Tryz.prog 94 #[dat g lb sf sb,.int .i64 a,.int .i64 b] W fun e w'=>e = .returned (.tuple #[])∧Row blk n w0 (Sort.insertionSort lt d a b) w'∧W.grownBy w' (some blk):=by
 obtain ⟨W1,hW1,hB1,g1⟩:=zcd g lb sf sb W
 have h1:Row blk n w0 d W1:=by rw[hW1];exact h.alloc _
 have hbl:=h.inb S
 have hne:W.heap.size≠blk:=by omega
 obtain ⟨B,hBe⟩:∃ B,B=W.heap.size:=⟨_,rfl⟩
 rw[← hBe] at hB1 hne
 have eg:=S.eg
 have hn:=S.hn
 obtain ⟨HW,HS,H1,HB,HG,HBE⟩:=zh6 hW1 S h1 hB1 g1 hBe
 clear hBe hW1 S h h1 hB1 g1 hbl
 go_enter Tryz.func94,Tryz.ntmps94
 go_wp2_with (rw[← uh HW,← uh HBE])
 go_loopw [6] (fun vi wr=>∃ (i:Nat) (dk:Array Nm),vi = .int .i64 i∧a<i∧i≤b+1∧Hid (Row blk n w0 dk wr∧W1.grownBy wr (some blk))∧Hid (insOuter lt a b i dk=insOuter lt a b (a+1) d)) (fun vi _=>b+1 - (intOf vi).toNat)
 case atStart=>exact ⟨a+1,d,by go_num,by omega,by omega,⟨uh H1,zab _ _⟩,rfl⟩
 case round =>
  obtain ⟨i,dk,rfl,hai,hib,HR,HO⟩:=hrel
  by_cases hlt:i<b
  ·have hltz:(i:Int)<(b:Int):=by omega
   go_wp2_with fail
   go_loopw [7] (fun vj wr=>∃ (j:Nat) (dj:Array Nm),vj = .int .i64 j∧a≤j∧j≤i∧Hid (Row blk n w0 dj wr∧W1.grownBy wr (some blk))∧Hid (insInner lt a j dj=insInner lt a i dk)) (fun vj _=>(intOf vj).toNat)
   case atStart=>exact ⟨i,dk,rfl,by omega,Nat.le_refl _,HR,rfl⟩
   case round =>
    obtain ⟨j,dj,rfl,haj,hji,HJ,HI⟩:=hrel
    have out:(j≤a∨lt dj[j]! dj[j - 1]! = false)→Hid (insOuter lt a b (i+1) dj=insOuter lt a b (a+1) d):=fun hs=>by
     show _=_
     rw[← uh HO,insOuter_go _ _ _ _ _ hlt,← uh HI,insInner_stop _ _ _ _ hs]
    have OUT:=hide out
    clear out
    obtain ⟨c0,c1⟩:=zaf (uh HB) hne (uh HJ).2
    by_cases hja:a<j
    ·have hjaz:(a:Int)<(j:Int):=by omega
     cases hlv:lt dj[j]! dj[j - 1]! with
     | true =>
      have hl:=(uh HS).less_at (uh HJ).1 j (j - 1) (j:Int) ((j:Int) - 1) rfl (by omega) (by omega) (by omega) true hlv
      clear c1
      go_wp2_with (go_at_fn g;refine hl.mono ?_;rintro e w2 ⟨rfl,hR2,g2⟩;clear hl;obtain ⟨c0,c1⟩:=zaf (uh HB) hne (tn (uh HJ).2 g2))
      obtain ⟨V,hs,hR3,g3⟩:=(uh HS).swap_at hR2 j (j - 1) (j:Int) ((j:Int) - 1) rfl (by omega) (by omega) (by omega)
      rw[hs,Oper.upon_value]
      have HR3:=hide hR3
      have HG3:=hide (zaj (tn (uh HJ).2 g2) g3)
      clear hs hR2 hR3 g2 g3 c0 c1
      go_wp2_with fail
      go_roundw
      case rel=>exact ⟨j - 1,swp dj j (j - 1),by congr 1 <;> omega,by omega,by omega,⟨uh HR3,uh HG3⟩,by show _=_;rw[← uh HI,insInner_go lt a j dj hja hlv]⟩
      case measure=>simp[intOf];omega
     | false =>
      have hl:=(uh HS).less_at (uh HJ).1 j (j - 1) (j:Int) ((j:Int) - 1) rfl (by omega) (by omega) (by omega) false hlv
      clear c1
      go_wp2_with (go_at_fn g;refine hl.mono ?_;rintro e w2 ⟨rfl,hR2,g2⟩;clear hl)
      go_roundw
      case rel=>exact ⟨i+1,dj,by go_num,by omega,by omega,⟨hR2,tn (uh HJ).2 g2⟩,uh OUT (Or.inr hlv)⟩
      case measure=>simp[intOf];omega
    ·go_wp2_with fail
     go_roundw
     case rel=>exact ⟨i+1,dj,by go_num,by omega,by omega,HJ,uh OUT (Or.inl (by omega))⟩
     case measure=>simp[intOf];omega
  ·have hltz:¬ (i:Int)<(b:Int):=by omega
   go_wp2_with fail
   go_end0
   refine ⟨rfl,?_,zaj (zao _ (uh HG)) (uh HR).2⟩
   have e:dk=Sort.insertionSort lt d a b:=by unfold Sort.insertionSort;rw[← uh HO,insOuter_stop _ _ _ _ _ hlt]
   rw[← e]
   exact (uh HR).1
end
section
variable {lt:Nm→Nm→Bool} {g:Nat} {lb:Array Value} {sf:Nat} {sb:Array Value} {blk n:Nat} {w0:World}
set_option maxHeartbeats 12000000 in
theorem zpv (S:Srt lt g lb sf sb blk n w0) (W:World) (d:Array Nm) (h:Row blk n w0 d W) (a b:Nat) (hab:a<b) (hb:b≤n) :
  Calls Tryz.prog 99 #[dat g lb sf sb,.int .i64 a,.int .i64 b] W fun e w'=>e = .returned (.bool (Sort.partialInsertionSort lt d a b).2)∧Row blk n w0 (Sort.partialInsertionSort lt d a b).1 w'∧W.grownBy w' (some blk):=by
 obtain ⟨W1,hW1,hB1,g1⟩:=zcd g lb sf sb W
 have h1:Row blk n w0 d W1:=by rw[hW1];exact h.alloc _
 have hbl:=h.inb S
 have hne:W.heap.size≠blk:=by omega
 obtain ⟨B,hBe⟩:∃ B,B=W.heap.size:=⟨_,rfl⟩
 rw[← hBe] at hB1 hne
 have eg:=S.eg
 have hn:=S.hn
 obtain ⟨HW,HS,H1,HB,HG,HBE⟩:=zh6 hW1 S h1 hB1 g1 hBe
 clear hBe hW1 S h h1 hB1 g1 hbl
 go_enter Tryz.func99,Tryz.ntmps99
 go_wp2_with (rw[← uh HW,← uh HBE])
 go_loopg [7,8] 5 (fun g1 vi vs wr=>∃ (i s:Nat) (dk:Array Nm),vi = .int .i64 i∧vs = .int .i64 s∧s≤5∧Hid (5 - s≤g1)∧a<i∧i≤b∧Hid (Row blk n w0 dk wr∧W1.grownBy wr (some blk))∧Hid (partialIns lt a b (5 - s) i dk=partialIns lt a b 5 (a+1) d))
 case atStart=>exact ⟨a+1,0,d,by go_num,rfl,by omega,Nat.le_refl _,by omega,by omega,⟨uh H1,zab _ _⟩,rfl⟩
 case round =>
  obtain ⟨i,s,dk,rfl,rfl,hs5,hg1,hai,hib,HR,HO⟩:=hrel
  by_cases hsl:s<5
  ·have hsz5:(s:Int)<5:=by omega
   go_wp2_with fail
   go_loopg [7] (b - i) (fun g2 vi wr=>∃ (kx:Nat),vi = .int .i64 kx∧i≤kx∧kx≤b∧Hid (b - kx≤g2)∧Hid (Row blk n w0 dk wr∧W1.grownBy wr (some blk))∧Hid (scanSorted lt dk b kx=scanSorted lt dk b i))
   case atStart=>exact ⟨i,rfl,Nat.le_refl _,hib,Nat.le_refl _,HR,rfl⟩
   case round =>
    clear HR
    obtain ⟨kx,rfl,hik,hkb,hg2,HJ,HSc⟩:=hrel
    obtain ⟨c0,c1⟩:=zaf (uh HB) hne (uh HJ).2
    by_cases hkb' : kx<b
    ·have hkz:(kx:Int)<(b:Int):=by omega
     cases hlv:lt dk[kx]! dk[kx - 1]! with
     | false =>
      have hl:=(uh HS).less_at (uh HJ).1 kx (kx - 1) (kx:Int) ((kx:Int) - 1) rfl (by omega) (by omega) (by omega) false hlv
      go_wp2_with (go_at_fn g;refine hl.mono ?_;rintro e w2 ⟨rfl,hR2,g2⟩;clear hl;have HR2:=hide (And.intro hR2 (tn (uh HJ).2 g2));clear hR2 g2)
      go_roundg (b - (kx+1))
      case measure=>have:=uh hg2;omega
      case rel=>exact ⟨kx+1,by go_num,by omega,by omega,Nat.le_refl _,HR2,by show _=_;rw[← uh HSc,scanSorted_go lt dk b kx hkb' hlv]⟩
     | true =>
      have hl:=(uh HS).less_at (uh HJ).1 kx (kx - 1) (kx:Int) ((kx:Int) - 1) rfl (by omega) (by omega) (by omega) true hlv
      have HK:Hid (scanSorted lt dk b i=kx):=by show _=_;rw[← uh HSc,scanSorted_stop lt dk b kx (Or.inr hlv)]
      have hkne:((kx:Int) == (b:Int))=false:=beq_eq_false_iff_ne.2 (by omega)
      have hkne2:¬ (kx:Int)=(b:Int):=by omega
      by_cases h50:b - a<50
      ·have h50z:(b:Int) - (a:Int)<50:=by omega
       go_wp2_with (go_at_fn g;refine hl.mono ?_;rintro e w2 ⟨rfl,hR2,g2⟩;clear hl;have HR2:=hide (And.intro hR2 (tn (uh HJ).2 g2));clear hR2 g2)
       have hv:Sort.partialInsertionSort lt d a b=(dk,false):=by
        unfold Sort.partialInsertionSort
        rw[← uh HO,pi_short lt a b s i dk hsl (by rw[uh HK];omega) h50]
       rw[hv]
       go_ret
       exact ⟨rfl,(uh HR2).1,zaj (zao _ (uh HG)) (uh HR2).2⟩
      ·have h50z:¬ ((b:Int) - (a:Int)<50):=by omega
       go_upto_if 47 with (go_at_fn g;refine hl.mono ?_;rintro e w2 ⟨rfl,hR2,g2⟩;clear hl;have g3:=tn (uh HJ).2 g2;obtain ⟨V,hs,hR4,g4⟩:=(uh HS).swap_at hR2 kx (kx - 1) (kx:Int) ((kx:Int) - 1) rfl (by omega) (by omega) (by omega);clear c0 c1;obtain ⟨c0,c1⟩:=zaf (uh HB) hne g3;have HR4:=hide (And.intro hR4 (zaj g3 g4));clear hR2 g2 hR4 g4 g3)
       clear c0 c1 HJ HSc hlv
       go_cut [] (fun wc=>Hid (Row blk n w0 (fixDown lt a kx (swp dk kx (kx - 1))) wc∧W1.grownBy wc (some blk)))
       case first =>
        by_cases hka:kx - a ≥ 2
        ·have hkaz:(2:Int)≤(kx:Int) - (a:Int):=by omega
         rw[decide_eq_true hkaz]
         go_wp2_with fail
         go_loopg [9] (kx - 1) (fun g3 vj wr=>∃ (j:Nat) (dj:Array Nm),vj = .int .i64 j∧j≤kx - 1∧Hid (j≤g3)∧Hid (Row blk n w0 dj wr∧W1.grownBy wr (some blk))∧Hid (shiftDown lt j dj=shiftDown lt (kx - 1) (swp dk kx (kx - 1))))
         case atStart=>exact ⟨kx - 1,swp dk kx (kx - 1),by congr 1;omega,Nat.le_refl _,Nat.le_refl _,HR4,rfl⟩
         case round =>
          clear HR4
          obtain ⟨j,dj,rfl,hjk,hg3,HJ,HDn⟩:=hrel
          obtain ⟨c0,c1⟩:=zaf (uh HB) hne (uh HJ).2
          by_cases hj1:1≤j
          ·have hj1z:(1:Int)≤(j:Int):=by omega
           cases hlv2:lt dj[j]! dj[j - 1]! with
           | true =>
            have hl:=(uh HS).less_at (uh HJ).1 j (j - 1) (j:Int) ((j:Int) - 1) rfl (by omega) (by omega) (by omega) true hlv2
            go_wp2_with (go_at_fn g;refine hl.mono ?_;rintro e w3 ⟨rfl,hR2,g2⟩;clear hl;have g3:=tn (uh HJ).2 g2;obtain ⟨V3,hs,hR5,g4⟩:=(uh HS).swap_at hR2 j (j - 1) (j:Int) ((j:Int) - 1) rfl (by omega) (by omega) (by omega);clear c0 c1;obtain ⟨c0,c1⟩:=zaf (uh HB) hne g3;have HR5:=hide (And.intro hR5 (zaj g3 g4));clear hR2 g2 hR5 g4 g3)
            go_roundg (j - 1)
            case measure=>have:=uh hg3;omega
            case rel=>exact ⟨j - 1,swp dj j (j - 1),by congr 1;omega,by omega,Nat.le_refl _,HR5,by show _=_;rw[← uh HDn,shiftDown_go lt j dj hj1 hlv2]⟩
           | false =>
            have hl:=(uh HS).less_at (uh HJ).1 j (j - 1) (j:Int) ((j:Int) - 1) rfl (by omega) (by omega) (by omega) false hlv2
            have HD:Hid (fixDown lt a kx (swp dk kx (kx - 1))=dj):=by show _=_;unfold fixDown;rw[if_pos hka,← uh HDn,shiftDown_stop lt j dj (Or.inr hlv2)]
            go_wp2_with (go_at_fn g;refine hl.mono ?_;rintro e w3 ⟨rfl,hR2,g2⟩;clear hl;have HR2:=hide (And.intro hR2 (tn (uh HJ).2 g2));clear hR2 g2)
            go_meet
            case rel=>rw[uh HD];exact HR2
          ·have hj1z:¬ (1:Int)≤(j:Int):=by omega
           have HD:Hid (fixDown lt a kx (swp dk kx (kx - 1))=dj):=by show _=_;unfold fixDown;rw[if_pos hka,← uh HDn,shiftDown_stop lt j dj (Or.inl (by omega))]
           go_wp2_with fail
           go_meet
           case rel=>rw[uh HD];exact HJ
        ·have hkaz:¬ (2:Int)≤(kx:Int) - (a:Int):=by omega
         have HD:Hid (fixDown lt a kx (swp dk kx (kx - 1))=(swp dk kx (kx - 1))):=by show _=_;unfold fixDown;rw[if_neg hka]
         go_wp2_with fail
         go_meet
         case rel=>rw[uh HD];exact HR4
       case rest =>
        clear HR4
        obtain ⟨dd,hdd⟩:∃ dd,dd=fixDown lt a kx (swp dk kx (kx - 1)):=⟨_,rfl⟩
        rw[← hdd] at hcut
        have HDD:=hide hdd
        clear hdd
        by_cases hbk:b - kx ≥ 2
        ·have hbkz:(2:Int)≤(b:Int) - (kx:Int):=by omega
         go_wp2_with fail
         go_loopg [10] (b - (kx+1)) (fun g4 vj wr=>∃ (ju:Nat) (du:Array Nm),vj = .int .i64 ju∧kx+1≤ju∧ju≤b∧Hid (b - ju≤g4)∧Hid (Row blk n w0 du wr∧W1.grownBy wr (some blk))∧Hid (shiftUp lt b ju du=shiftUp lt b (kx+1) dd))
         case atStart=>exact ⟨kx+1,dd,by go_num,Nat.le_refl _,by omega,Nat.le_refl _,hcut,rfl⟩
         case round =>
          clear hcut
          obtain ⟨ju,du,rfl,hkj,hjb,hg4,HJ,HU⟩:=hrel
          obtain ⟨c0,c1⟩:=zaf (uh HB) hne (uh HJ).2
          by_cases hjb' : ju<b
          ·have hjz:(ju:Int)<(b:Int):=by omega
           cases hlv3:lt du[ju]! du[ju - 1]! with
           | true =>
            have hl:=(uh HS).less_at (uh HJ).1 ju (ju - 1) (ju:Int) ((ju:Int) - 1) rfl (by omega) (by omega) (by omega) true hlv3
            go_wp2_with (go_at_fn g;refine hl.mono ?_;rintro e w3 ⟨rfl,hR2,g2⟩;clear hl;have g3:=tn (uh HJ).2 g2;obtain ⟨V3,hs,hR5,g4⟩:=(uh HS).swap_at hR2 ju (ju - 1) (ju:Int) ((ju:Int) - 1) rfl (by omega) (by omega) (by omega);clear c0 c1;obtain ⟨c0,c1⟩:=zaf (uh HB) hne g3;have HR5:=hide (And.intro hR5 (zaj g3 g4));clear hR2 g2 hR5 g4 g3)
            go_roundg (b - (ju+1))
            case measure=>have:=uh hg4;omega
            case rel=>exact ⟨ju+1,swp du ju (ju - 1),by go_num,by omega,by omega,Nat.le_refl _,HR5,by show _=_;rw[← uh HU,shiftUp_go lt b ju du hjb' hlv3]⟩
           | false =>
            have hl:=(uh HS).less_at (uh HJ).1 ju (ju - 1) (ju:Int) ((ju:Int) - 1) rfl (by omega) (by omega) (by omega) false hlv3
            go_wp2_with (go_at_fn g;refine hl.mono ?_;rintro e w3 ⟨rfl,hR2,g2⟩;clear hl;have HR2:=hide (And.intro hR2 (tn (uh HJ).2 g2));clear hR2 g2)
            go_roundg (5 - (s+1))
            case measure=>have:=uh hg1;omega
            case rel=>exact ⟨kx,s+1,du,rfl,by go_num,by omega,Nat.le_refl _,by omega,by omega,HR2,by show _=_;rw[← uh HO,pi_go lt a b s i kx dk hsl (uh HK) (by omega) h50,← uh HDD,show fixUp lt b kx dd=du from by unfold fixUp;rw[if_pos hbk,← uh HU,shiftUp_stop lt b ju du (Or.inr hlv3)]]⟩
          ·have hjz:¬ (ju:Int)<(b:Int):=by omega
           go_wp2_with fail
           go_roundg (5 - (s+1))
           case measure=>have:=uh hg1;omega
           case rel=>exact ⟨kx,s+1,du,rfl,by go_num,by omega,Nat.le_refl _,by omega,by omega,HJ,by show _=_;rw[← uh HO,pi_go lt a b s i kx dk hsl (uh HK) (by omega) h50,← uh HDD,show fixUp lt b kx dd=du from by unfold fixUp;rw[if_pos hbk,← uh HU,shiftUp_stop lt b ju du (Or.inl hjb')]]⟩
        ·have hbkz:¬ (2:Int)≤(b:Int) - (kx:Int):=by omega
         go_wp2_with fail
         go_roundg (5 - (s+1))
         case measure=>have:=uh hg1;omega
         case rel=>exact ⟨kx,s+1,dd,rfl,by go_num,by omega,Nat.le_refl _,by omega,by omega,hcut,by show _=_;rw[← uh HO,pi_go lt a b s i kx dk hsl (uh HK) (by omega) h50,← uh HDD,show fixUp lt b kx dd=dd from by unfold fixUp;rw[if_neg hbk]]⟩
    ·obtain rfl:kx=b:=by omega
     have hkz:¬ (kx:Int)<(kx:Int):=by omega
     go_wp2_with fail
     have hv:Sort.partialInsertionSort lt d a kx=(dk,true):=by
      unfold Sort.partialInsertionSort
      rw[← uh HO,pi_true lt a kx s i dk hsl (by rw[← uh HSc,scanSorted_stop lt dk kx kx (Or.inl (by omega))])]
     rw[hv]
     go_ret
     exact ⟨rfl,(uh HJ).1,zaj (zao _ (uh HG)) (uh HJ).2⟩
  ·obtain rfl:s=5:=by omega
   go_wp2_with fail
   have hv:Sort.partialInsertionSort lt d a b=(dk,false):=by
    unfold Sort.partialInsertionSort
    rw[← uh HO,pi_end]
   rw[hv]
   go_ret
   exact ⟨rfl,(uh HR).1,zaj (zao _ (uh HG)) (uh HR).2⟩
end
end Go.Proofs.YtegbbkgmiklhcaaGreatDoor
