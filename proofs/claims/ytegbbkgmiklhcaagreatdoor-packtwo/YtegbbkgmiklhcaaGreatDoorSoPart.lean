/- Lemmas. -/
import Derived.Test.YtegbbkgmiklhcaaGreatDoorSoPin
import Derived.Sort.WalkC4
namespace Go.Proofs.YtegbbkgmiklhcaaGreatDoor
open Go.RowKit Go.Shelf Go.Lib Go.Sort
section
variable {lt:Nm→Nm→Bool} {g:Nat} {lb:Array Value} {sf:Nat} {sb:Array Value} {blk n:Nat} {w0:World}
set_option maxRecDepth 100000 in
set_option maxHeartbeats 12000000 in
theorem zkz (S:Srt lt g lb sf sb blk n w0) (W:World) (d:Array Nm) (h:Row blk n w0 d W) (a b pivot:Nat) (hap:a≤pivot) (hpb:pivot<b) (hb:b≤n) :
  Calls Tryz.prog 101 #[dat g lb sf sb,.int .i64 a,.int .i64 b,.int .i64 pivot] W fun e w'=>e = .returned (.tuple #[.int .i64 (Sort.partition lt d a b pivot).1,.bool (Sort.partition lt d a b pivot).2.1])∧Row blk n w0 (Sort.partition lt d a b pivot).2.2 w'∧W.grownBy w' (some blk):=by
 obtain ⟨W1,hW1,hB1,g1⟩:=zcd g lb sf sb W
 have h1:Row blk n w0 d W1:=by rw[hW1];exact h.alloc _
 have hbl:=h.inb S
 have hne:W.heap.size≠blk:=by omega
 obtain ⟨B,hBe⟩:∃ B,B=W.heap.size:=⟨_,rfl⟩
 rw[← hBe] at hB1 hne
 have eg:=S.eg
 have hn:=S.hn
 obtain ⟨V,hs,hRV,gV⟩:=S.swap_at h1 a pivot (a:Int) (pivot:Int) rfl rfl (by omega) (by omega)
 obtain ⟨c0,c1⟩:=zaf hB1 hne (zab W1 (some blk))
 obtain ⟨v0,v1⟩:=zaf hB1 hne gV
 obtain ⟨i,hi⟩:∃ i:Nat,i=a+1:=⟨_,rfl⟩
 obtain ⟨j,hj⟩:∃ j:Nat,j=b - 1:=⟨_,rfl⟩
 obtain ⟨dk,hdk⟩:∃ dk:Array Nm,dk=swp d a pivot:=⟨_,rfl⟩
 rw[← hdk] at hRV
 have hai:a<i:=by omega
 have hij:i≤j+1:=by omega
 have hjb:j<b:=by omega
 have ea:(a:Int)+1=(i:Int):=by omega
 have eb:(b:Int) - 1=(j:Int):=by omega
 obtain ⟨HW,HS⟩:=zh2 hW1 S
 have HR:=hide (And.intro hRV gV)
 obtain ⟨HB,HG,HBE,Hi,Hj,Hdk⟩:=zh6 hB1 g1 hBe hi hj hdk
 clear hBe hW1 S h h1 hB1 g1 hbl hRV gV hi hj hdk
 go_enter Tryz.func101,Tryz.ntmps101
 go_wp2_with (rw[← uh HW,← uh HBE])
 clear c0 c1 v0 v1 hs ea eb
 go_loopw [10] (fun vi wr=>∃ (i' : Nat),vi = .int .i64 i'∧i≤i'∧i'≤j+1∧Hid (Row blk n w0 dk wr∧W1.grownBy wr (some blk))∧Hid (scanUp (fun x=>lt x dk[a]!) dk j i'=scanUp (fun x=>lt x dk[a]!) dk j i))
  (fun vi _=>j+1 - (intOf vi).toNat)
 case atStart=>exact ⟨i,rfl,Nat.le_refl _,hij,HR,rfl⟩
 case round =>
  clear HR
  obtain ⟨i',rfl,hii,hij',HJ,hsc⟩:=hrel
  obtain ⟨c0,c1⟩:=zaf (uh HB) hne (uh HJ).2
  by_cases hle:i'≤j
  ·have hlez:(i' : Int)≤(j:Int):=by omega
   cases hlv:lt dk[i']! dk[a]! with
   | true =>
    have hl:=(uh HS).less_at (uh HJ).1 i' a (i' : Int) (a:Int) rfl rfl (by omega) (by omega) true hlv
    go_wp2_with (go_at_fn g;refine hl.mono ?_;rintro e w3 ⟨rfl,hR2,g2⟩;clear hl;have HR2:=hide (And.intro hR2 (tn (uh HJ).2 g2));clear hR2 g2)
    go_roundw
    case rel=>exact ⟨i'+1,by go_num,by omega,by omega,HR2,(scanUp_go (fun x=>lt x dk[a]!) dk j i' hle hlv).symm.trans (uh hsc)⟩
    case measure=>simp[intOf];omega
   | false =>
    have hl:=(uh HS).less_at (uh HJ).1 i' a (i' : Int) (a:Int) rfl rfl (by omega) (by omega) false hlv
    have hi2:Hid (i'=scanUp (fun x=>lt x dk[a]!) dk j i):=(scanUp_end (fun x=>lt x dk[a]!) dk j i' (Or.inr hlv)).symm.trans (uh hsc)
    go_wp2_with (go_at_fn g;refine hl.mono ?_;rintro e w3 ⟨rfl,hR2,g2⟩;clear hl;have HR2:=hide (And.intro hR2 (tn (uh HJ).2 g2));clear hR2 g2)
    clear c0 c1 HJ hsc
    go_loopw [11] (fun vj wr=>∃ (j' : Nat),vj = .int .i64 j'∧j'≤j∧i'≤j'+1∧Hid (Row blk n w0 dk wr∧W1.grownBy wr (some blk))∧Hid (scanDown (fun x => !lt x dk[a]!) dk i' j'=scanDown (fun x => !lt x dk[a]!) dk i' j))
     (fun vj _=>(intOf vj).toNat)
    case atStart=>exact ⟨j,rfl,Nat.le_refl _,hij',HR2,rfl⟩
    case round =>
     clear HR2
     obtain ⟨j',rfl,hjj,hij2,HJ,hsd⟩:=hrel
     obtain ⟨c0,c1⟩:=zaf (uh HB) hne (uh HJ).2
     by_cases hle2:i'≤j'
     ·have hlez2:(i' : Int)≤(j' : Int):=by omega
      cases hlv2:lt dk[j']! dk[a]! with
      | false =>
       have hl:=(uh HS).less_at (uh HJ).1 j' a (j' : Int) (a:Int) rfl rfl (by omega) (by omega) false hlv2
       go_wp2_with (go_at_fn g;refine hl.mono ?_;rintro e w3 ⟨rfl,hR2,g2⟩;clear hl;have HR2:=hide (And.intro hR2 (tn (uh HJ).2 g2));clear hR2 g2)
       go_roundw
       case rel=>exact ⟨j' - 1,by go_num,by omega,by omega,HR2,(scanDown_go (fun x => !lt x dk[a]!) dk i' j' hle2 (by omega) (by simp[hlv2])).symm.trans (uh hsd)⟩
       case measure=>simp[intOf];omega
      | true =>
       have hl:=(uh HS).less_at (uh HJ).1 j' a (j' : Int) (a:Int) rfl rfl (by omega) (by omega) true hlv2
       have hj2:Hid (j'=scanDown (fun x => !lt x dk[a]!) dk i' j):=(scanDown_end (fun x => !lt x dk[a]!) dk i' j' (Or.inr (by simp[hlv2]))).symm.trans (uh hsd)
       have hlt3:=part_scans_lt lt a i j dk (by omega) (uh hi2) (uh hj2) hle2
       clear hsd
       go_wp2_with (go_at_fn g;refine hl.mono ?_;rintro e w3 ⟨rfl,hR2,g2⟩;clear hl;have g3:=tn (uh HJ).2 g2;obtain ⟨V,hs,hR4,g4⟩:=(uh HS).swap_at hR2 i' j' (i' : Int) (j' : Int) rfl rfl (by omega) (by omega);clear c0 c1;obtain ⟨c0,c1⟩:=zaf (uh HB) hne g3;obtain ⟨v0,v1⟩:=zaf (uh HB) hne (zaj g3 g4);have HR4:=hide (And.intro hR4 (zaj g3 g4));clear hR2 g2 hR4 g4 g3)
       rw[decide_eq_false (show ¬ j'<i' by omega)]
       obtain ⟨I0,hI0⟩:∃ I0:Nat,I0=i'+1:=⟨_,rfl⟩
       obtain ⟨J0,hJ0⟩:∃ J0:Nat,J0=j' - 1:=⟨_,rfl⟩
       obtain ⟨D0,hD0⟩:∃ D0:Array Nm,D0=swp dk i' j':=⟨_,rfl⟩
       have PF:Hid (Sort.partition lt d a b pivot=((partLoop lt a I0 J0 D0).1,false,swp (partLoop lt a I0 J0 D0).2 (partLoop lt a I0 J0 D0).1 a)):=by
        rw[hI0,hJ0,hD0];exact part_first_go lt d a b pivot (uh Hi) (uh Hj) (uh Hdk) (uh hi2) (uh hj2) (by omega)
       clear c0 c1 v0 v1 hs
       go_loopw [10,11] (fun vi vj wr=>∃ (i j:Nat) (dk:Array Nm),vi = .int .i64 i∧vj = .int .i64 j∧a<i∧i≤j+1∧j<b∧Hid (Row blk n w0 dk wr∧W1.grownBy wr (some blk))∧Hid (partLoop lt a i j dk=partLoop lt a I0 J0 D0))
        (fun vi vj _=>(intOf vj).toNat+1 - (intOf vi).toNat)
       case atStart=>exact ⟨i'+1,j' - 1,swp dk i' j',by go_num,by go_num,by omega,by omega,by omega,HR4,by show _=_;rw[hI0,hJ0,hD0]⟩
       case round =>
        clear hI0 hJ0 hD0 HR4 hj2 hi2 hlt3 Hi Hj Hdk HJ hlez hlez2 hle hle2 hii hij' hjj hij2 hai hij hjb hlv hlv2
        obtain ⟨i,j,dk,rfl,rfl,hai,hij,hjb,HR,AE⟩:=hrel
        go_wp2_with fail
        go_loopw [10] (fun vi wr=>∃ (i' : Nat),vi = .int .i64 i'∧i≤i'∧i'≤j+1∧Hid (Row blk n w0 dk wr∧W1.grownBy wr (some blk))∧Hid (scanUp (fun x=>lt x dk[a]!) dk j i'=scanUp (fun x=>lt x dk[a]!) dk j i))
         (fun vi _=>j+1 - (intOf vi).toNat)
        case atStart=>exact ⟨i,rfl,Nat.le_refl _,hij,HR,rfl⟩
        case round =>
         clear HR
         obtain ⟨i',rfl,hii,hij',HJ,hsc⟩:=hrel
         obtain ⟨c0,c1⟩:=zaf (uh HB) hne (uh HJ).2
         by_cases hle:i'≤j
         ·have hlez:(i' : Int)≤(j:Int):=by omega
          cases hlv:lt dk[i']! dk[a]! with
          | true =>
           have hl:=(uh HS).less_at (uh HJ).1 i' a (i' : Int) (a:Int) rfl rfl (by omega) (by omega) true hlv
           go_wp2_with (go_at_fn g;refine hl.mono ?_;rintro e w3 ⟨rfl,hR2,g2⟩;clear hl;have HR2:=hide (And.intro hR2 (tn (uh HJ).2 g2));clear hR2 g2)
           go_roundw
           case rel=>exact ⟨i'+1,by go_num,by omega,by omega,HR2,(scanUp_go (fun x=>lt x dk[a]!) dk j i' hle hlv).symm.trans (uh hsc)⟩
           case measure=>simp[intOf];omega
          | false =>
           have hl:=(uh HS).less_at (uh HJ).1 i' a (i' : Int) (a:Int) rfl rfl (by omega) (by omega) false hlv
           have hi2:Hid (i'=scanUp (fun x=>lt x dk[a]!) dk j i):=(scanUp_end (fun x=>lt x dk[a]!) dk j i' (Or.inr hlv)).symm.trans (uh hsc)
           go_wp2_with (go_at_fn g;refine hl.mono ?_;rintro e w3 ⟨rfl,hR2,g2⟩;clear hl;have HR2:=hide (And.intro hR2 (tn (uh HJ).2 g2));clear hR2 g2)
           clear c0 c1 HJ hsc
           go_loopw [11] (fun vj wr=>∃ (j' : Nat),vj = .int .i64 j'∧j'≤j∧i'≤j'+1∧Hid (Row blk n w0 dk wr∧W1.grownBy wr (some blk))∧Hid (scanDown (fun x => !lt x dk[a]!) dk i' j'=scanDown (fun x => !lt x dk[a]!) dk i' j))
            (fun vj _=>(intOf vj).toNat)
           case atStart=>exact ⟨j,rfl,Nat.le_refl _,hij',HR2,rfl⟩
           case round =>
            clear HR2
            obtain ⟨j',rfl,hjj,hij2,HJ,hsd⟩:=hrel
            obtain ⟨c0,c1⟩:=zaf (uh HB) hne (uh HJ).2
            by_cases hle2:i'≤j'
            ·have hlez2:(i' : Int)≤(j' : Int):=by omega
             cases hlv2:lt dk[j']! dk[a]! with
             | false =>
              have hl:=(uh HS).less_at (uh HJ).1 j' a (j' : Int) (a:Int) rfl rfl (by omega) (by omega) false hlv2
              go_wp2_with (go_at_fn g;refine hl.mono ?_;rintro e w3 ⟨rfl,hR2,g2⟩;clear hl;have HR2:=hide (And.intro hR2 (tn (uh HJ).2 g2));clear hR2 g2)
              go_roundw
              case rel=>exact ⟨j' - 1,by go_num,by omega,by omega,HR2,(scanDown_go (fun x => !lt x dk[a]!) dk i' j' hle2 (by omega) (by simp[hlv2])).symm.trans (uh hsd)⟩
              case measure=>simp[intOf];omega
             | true =>
              have hl:=(uh HS).less_at (uh HJ).1 j' a (j' : Int) (a:Int) rfl rfl (by omega) (by omega) true hlv2
              have hj2:Hid (j'=scanDown (fun x => !lt x dk[a]!) dk i' j):=(scanDown_end (fun x => !lt x dk[a]!) dk i' j' (Or.inr (by simp[hlv2]))).symm.trans (uh hsd)
              have hlt3:=part_scans_lt lt a i j dk (by omega) (uh hi2) (uh hj2) hle2
              clear hsd
              go_wp2_with (go_at_fn g;refine hl.mono ?_;rintro e w3 ⟨rfl,hR2,g2⟩;clear hl;have g3:=tn (uh HJ).2 g2;obtain ⟨V,hs,hR4,g4⟩:=(uh HS).swap_at hR2 i' j' (i' : Int) (j' : Int) rfl rfl (by omega) (by omega);clear c0 c1;obtain ⟨c0,c1⟩:=zaf (uh HB) hne g3;obtain ⟨v0,v1⟩:=zaf (uh HB) hne (zaj g3 g4);have HR4:=hide (And.intro hR4 (zaj g3 g4));clear hR2 g2 hR4 g4 g3)
              go_roundw
              case rel =>
               refine ⟨i'+1,j' - 1,swp dk i' j',by go_num,by go_num,by omega,by omega,by omega,HR4,?_⟩
               show _=_
               rw[← uh AE];exact (part_go lt a i j dk (uh hi2) (uh hj2) (by omega)).symm
              case measure=>simp[intOf];omega
            ·have hlez2:¬ (i' : Int)≤(j' : Int):=by omega
             have hj2:Hid (j'=scanDown (fun x => !lt x dk[a]!) dk i' j):=(scanDown_end (fun x => !lt x dk[a]!) dk i' j' (Or.inl hle2)).symm.trans (uh hsd)
             clear hsd
             obtain ⟨V,hs,hR4,g4⟩:=(uh HS).swap_at (uh HJ).1 j' a (j' : Int) (a:Int) rfl rfl (by omega) (by omega)
             obtain ⟨v0,v1⟩:=zaf (uh HB) hne (zaj (uh HJ).2 g4)
             have HR4:=hide (And.intro hR4 (zaj (uh HJ).2 g4))
             clear hR4 g4
             go_wp2_with fail
             go_ret2
             have e:=part_break lt a i j dk (uh hi2) (uh hj2) (by omega)
             rw[uh PF,← uh AE,e]
             exact ⟨rfl,(uh HR4).1,zaj (zao _ (uh HG)) (uh HR4).2⟩
         ·have hlez:¬ (i' : Int)≤(j:Int):=by omega
          have hi2:Hid (i'=scanUp (fun x=>lt x dk[a]!) dk j i):=(scanUp_end (fun x=>lt x dk[a]!) dk j i' (Or.inl hle)).symm.trans (uh hsc)
          go_wp2_with fail
          clear c0 c1 hsc
          go_loopw [11] (fun vj wr=>∃ (j' : Nat),vj = .int .i64 j'∧j'≤j∧i'≤j'+1∧Hid (Row blk n w0 dk wr∧W1.grownBy wr (some blk))∧Hid (scanDown (fun x => !lt x dk[a]!) dk i' j'=scanDown (fun x => !lt x dk[a]!) dk i' j))
           (fun vj _=>(intOf vj).toNat)
          case atStart=>exact ⟨j,rfl,Nat.le_refl _,hij',HJ,rfl⟩
          case round =>
           clear HJ
           obtain ⟨j',rfl,hjj,hij2,HJ,hsd⟩:=hrel
           obtain ⟨c0,c1⟩:=zaf (uh HB) hne (uh HJ).2
           have hle2:¬ i'≤j':=by omega
           have hlez2:¬ (i' : Int)≤(j' : Int):=by omega
           have hj2:Hid (j'=scanDown (fun x => !lt x dk[a]!) dk i' j):=(scanDown_end (fun x => !lt x dk[a]!) dk i' j' (Or.inl hle2)).symm.trans (uh hsd)
           clear hsd
           obtain ⟨V,hs,hR4,g4⟩:=(uh HS).swap_at (uh HJ).1 j' a (j' : Int) (a:Int) rfl rfl (by omega) (by omega)
           obtain ⟨v0,v1⟩:=zaf (uh HB) hne (zaj (uh HJ).2 g4)
           have HR4:=hide (And.intro hR4 (zaj (uh HJ).2 g4))
           clear hR4 g4
           go_wp2_with fail
           go_ret2
           have e:=part_break lt a i j dk (uh hi2) (uh hj2) (by omega)
           rw[uh PF,← uh AE,e]
           exact ⟨rfl,(uh HR4).1,zaj (zao _ (uh HG)) (uh HR4).2⟩
     ·have hlez2:¬ (i' : Int)≤(j' : Int):=by omega
      have hj2:Hid (j'=scanDown (fun x => !lt x dk[a]!) dk i' j):=(scanDown_end (fun x => !lt x dk[a]!) dk i' j' (Or.inl hle2)).symm.trans (uh hsd)
      clear hsd
      obtain ⟨V,hs,hR4,g4⟩:=(uh HS).swap_at (uh HJ).1 j' a (j' : Int) (a:Int) rfl rfl (by omega) (by omega)
      obtain ⟨v0,v1⟩:=zaf (uh HB) hne (zaj (uh HJ).2 g4)
      have HR4:=hide (And.intro hR4 (zaj (uh HJ).2 g4))
      clear hR4 g4
      go_wp2_with fail
      go_ret2
      have e:=part_first_break lt d a b pivot (uh Hi) (uh Hj) (uh Hdk) (uh hi2) (uh hj2) (by omega)
      rw[e]
      exact ⟨rfl,(uh HR4).1,zaj (zao _ (uh HG)) (uh HR4).2⟩
  ·have hlez:¬ (i' : Int)≤(j:Int):=by omega
   have hi2:Hid (i'=scanUp (fun x=>lt x dk[a]!) dk j i):=(scanUp_end (fun x=>lt x dk[a]!) dk j i' (Or.inl hle)).symm.trans (uh hsc)
   go_wp2_with fail
   clear c0 c1 hsc
   go_loopw [11] (fun vj wr=>∃ (j' : Nat),vj = .int .i64 j'∧j'≤j∧i'≤j'+1∧Hid (Row blk n w0 dk wr∧W1.grownBy wr (some blk))∧Hid (scanDown (fun x => !lt x dk[a]!) dk i' j'=scanDown (fun x => !lt x dk[a]!) dk i' j))
    (fun vj _=>(intOf vj).toNat)
   case atStart=>exact ⟨j,rfl,Nat.le_refl _,hij',HJ,rfl⟩
   case round =>
    clear HJ
    obtain ⟨j',rfl,hjj,hij2,HJ,hsd⟩:=hrel
    obtain ⟨c0,c1⟩:=zaf (uh HB) hne (uh HJ).2
    have hle2:¬ i'≤j':=by omega
    have hlez2:¬ (i' : Int)≤(j' : Int):=by omega
    have hj2:Hid (j'=scanDown (fun x => !lt x dk[a]!) dk i' j):=(scanDown_end (fun x => !lt x dk[a]!) dk i' j' (Or.inl hle2)).symm.trans (uh hsd)
    clear hsd
    obtain ⟨V,hs,hR4,g4⟩:=(uh HS).swap_at (uh HJ).1 j' a (j' : Int) (a:Int) rfl rfl (by omega) (by omega)
    obtain ⟨v0,v1⟩:=zaf (uh HB) hne (zaj (uh HJ).2 g4)
    have HR4:=hide (And.intro hR4 (zaj (uh HJ).2 g4))
    clear hR4 g4
    go_wp2_with fail
    go_ret2
    have e:=part_first_break lt d a b pivot (uh Hi) (uh Hj) (uh Hdk) (uh hi2) (uh hj2) (by omega)
    rw[e]
    exact ⟨rfl,(uh HR4).1,zaj (zao _ (uh HG)) (uh HR4).2⟩
end
end Go.Proofs.YtegbbkgmiklhcaaGreatDoor
