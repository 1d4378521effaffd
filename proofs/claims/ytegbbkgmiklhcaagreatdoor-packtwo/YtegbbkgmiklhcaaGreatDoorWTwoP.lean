/- Lemmas. -/
import Derived.Test.YtegbbkgmiklhcaaGreatDoorPkQ
import Derived.Deep.DeepCutAuto
namespace Go.Proofs.YtegbbkgmiklhcaaGreatDoor
open Go.RowKit
theorem zjt {l:List Ob} {b:List UInt8} {y:Int} (h:PutP l b y) (hs:zbo l≤60000):(y≠0)∨(y=0∧∃ s,s.Perm l∧PackOf b s∧b.length≤60006):=by
 by_cases hy:y=0
 ·obtain ⟨s,p,q⟩:=h.2.2 hy
  exact Or.inr ⟨hy,s,p,q,zk6 q p hs⟩
 ·exact Or.inl hy
theorem zfz {w:World} {b b2:Nat} {t:TypeId} {cs:List Value} (h:Typ w b) (hB:Blk w b2 t cs) (ht:t≠5) (e:b=b2):False:=by
 obtain ⟨cur,m,h⟩:=h
 unfold Blk at hB
 rw[← e,h] at hB
 injection hB with hB
 injection hB with _ h2 _
 exact ht h2.symm
set_option maxRecDepth 100000 in
set_option maxHeartbeats 8000000 in
theorem zm4 (w:World) (ao:Option Addr) (c:Nat) (A:List ObP) (hA:Obsl w ao c A) (bo:Option Addr) (d:Nat) (B:List ObP) (hB:Obsl w bo d B) (hT:Tabs w) :
  Calls Tryz.prog 6 #[.slice ao A.length c,.slice bo B.length d] w fun e w'=>e = .returned (.bool true)∧w.grownBy w' none:=by
 have hma:A.length≤9223372036854775807:=by have h1:=hA.fits;have h2:=hA.most;unfold maxLen at h2;omega
 have hmb:B.length≤9223372036854775807:=by have h1:=hB.fits;have h2:=hB.most;unfold maxLen at h2;omega
 obtain ⟨sa,hsa⟩:∃ y,y=decide (zbo (A.map (·.o))≤60000):=⟨_,rfl⟩
 obtain ⟨sb,hsb⟩:∃ y,y=decide (zbo (B.map (·.o))≤60000):=⟨_,rfl⟩
 obtain ⟨n,hn⟩:∃ n,n=A.length:=⟨_,rfl⟩
 obtain ⟨m,hm⟩:∃ n,n=B.length:=⟨_,rfl⟩
 have ca:∀ V,w.grownBy V none→Calls Tryz.prog 7 #[.slice ao n c] V fun e w'=>e = .returned (.bool sa)∧V.grownBy w' none:=fun V g=>by
  have:=zhv V ao c A (hA.kept g) hma
  rw[← hn,← hsa] at this
  refine this.mono ?_
  rintro e w' ⟨h1,h2⟩
  exact ⟨h1,by rw[h2];exact zab _ _⟩
 have cb:∀ V,w.grownBy V none→Calls Tryz.prog 7 #[.slice bo m d] V fun e w'=>e = .returned (.bool sb)∧V.grownBy w' none:=fun V g=>by
  have:=zhv V bo d B (hB.kept g) hmb
  rw[← hm,← hsb] at this
  refine this.mono ?_
  rintro e w' ⟨h1,h2⟩
  exact ⟨h1,by rw[h2];exact zab _ _⟩
 rw[← hn,← hm]
 obtain ⟨HCA,HCB,HSA,HSB⟩:=zh4 ca cb hsa hsb
 have HN:=hide (And.intro hn hm)
 obtain ⟨HA,HB,HT⟩:=zh3 hA hB hT
 clear ca cb hsa hsb hn hm hA hB hT hma hmb
 cases sa with
 | false =>
  go_enter Tryz.func6,Tryz.ntmps6
  go_upto_region 1 with fail
  refine za9 fun O hO => ?_
  refine zaa (by rw[hO];kernel_rfl) (.slice ao n c) (fun K9 hK9=>by go_simp;exact hK9) ?_
  (try simp only[pq])
  refine za1 (by rw[hO];kernel_rfl) fun K9 hK9 => ?_
  go_simp
  go_at_call 7
  refine (uh HCA _ (zab _ _)).mono ?_
  rintro e w1 ⟨rfl,g1⟩
  refine hK9 _ _ ?_
  clear hK9 K9
  (try simp only[pq])
  refine zaa (by rw[hO];kernel_rfl) (.bool true) (fun K9 hK9=>by go_simp;exact hK9) ?_
  (try simp only[pq])
  refine zaa (by rw[hO];kernel_rfl) (.bool true) (fun K9 hK9=>by go_simp;exact hK9) ?_
  (try simp only[pq])
  refine zap (by rw[hO];kernel_rfl) ?_
  (try simp only[pq])
  refine zap (by rw[hO];kernel_rfl) ?_
  (try simp only[pq])
  refine zap (by rw[hO];kernel_rfl) ?_
  (try simp only[pq])
  refine zaa (by rw[hO];kernel_rfl) (.bool true) (fun K9 hK9=>by go_simp;exact hK9) ?_
  (try simp only[pq])
  refine zaa (by rw[hO];kernel_rfl) (.bool true) (fun K9 hK9=>by go_simp;exact hK9) ?_
  (try simp only[pq])
  refine zap (by rw[hO];kernel_rfl) ?_
  (try simp only[pq])
  refine zap (by rw[hO];kernel_rfl) ?_
  (try simp only[pq])
  refine zap (by rw[hO];kernel_rfl) ?_
  (try simp only[pq])
  refine zaa (by rw[hO];kernel_rfl) (.bool true) (fun K9 hK9=>by go_simp;exact hK9) ?_
  (try simp only[pq])
  refine zaa (by rw[hO];kernel_rfl) (.bool true) (fun K9 hK9=>by go_simp;exact hK9) ?_
  (try simp only[pq])
  refine zap (by rw[hO];kernel_rfl) ?_
  (try simp only[pq])
  refine zap (by rw[hO];kernel_rfl) ?_
  (try simp only[pq])
  refine zap (by rw[hO];kernel_rfl) ?_
  (try simp only[pq])
  refine zaa (by rw[hO];kernel_rfl) (.bool true) (fun K9 hK9=>by go_simp;exact hK9) ?_
  (try simp only[pq])
  go_wp2_with fail
  go_ret
  exact ⟨rfl,g1⟩
 | true =>
  cases sb with
  | false =>
   go_enter Tryz.func6,Tryz.ntmps6
   go_upto_region 1 with fail
   refine za9 fun O hO => ?_
   refine zaa (by rw[hO];kernel_rfl) (.slice ao n c) (fun K9 hK9=>by go_simp;exact hK9) ?_
   (try simp only[pq])
   refine za1 (by rw[hO];kernel_rfl) fun K9 hK9 => ?_
   go_simp
   go_at_call 7
   refine (uh HCA _ (zab _ _)).mono ?_
   rintro e w1 ⟨rfl,g1⟩
   refine hK9 _ _ ?_
   clear hK9 K9
   (try simp only[pq])
   refine zaa (by rw[hO];kernel_rfl) (.bool false) (fun K9 hK9=>by go_simp;exact hK9) ?_
   (try simp only[pq])
   refine zaa (by rw[hO];kernel_rfl) (.bool false) (fun K9 hK9=>by go_simp;exact hK9) ?_
   (try simp only[pq])
   refine zaa (by rw[hO];kernel_rfl) (.slice bo m d) (fun K9 hK9=>by go_simp;exact hK9) ?_
   (try simp only[pq])
   refine za1 (by rw[hO];kernel_rfl) fun K9 hK9 => ?_
   go_simp
   go_at_call 7
   refine (uh HCB _ g1).mono ?_
   rintro e w2 ⟨rfl,g2⟩
   refine hK9 _ _ ?_
   clear hK9 K9
   (try simp only[pq])
   refine zaa (by rw[hO];kernel_rfl) (.bool true) (fun K9 hK9=>by go_simp;exact hK9) ?_
   (try simp only[pq])
   refine zaa (by rw[hO];kernel_rfl) (.bool true) (fun K9 hK9=>by go_simp;exact hK9) ?_
   (try simp only[pq])
   refine zaa (by rw[hO];kernel_rfl) (.bool true) (fun K9 hK9=>by go_simp;exact hK9) ?_
   (try simp only[pq])
   refine zap (by rw[hO];kernel_rfl) ?_
   (try simp only[pq])
   refine zap (by rw[hO];kernel_rfl) ?_
   (try simp only[pq])
   refine zap (by rw[hO];kernel_rfl) ?_
   (try simp only[pq])
   refine zaa (by rw[hO];kernel_rfl) (.bool true) (fun K9 hK9=>by go_simp;exact hK9) ?_
   (try simp only[pq])
   refine zaa (by rw[hO];kernel_rfl) (.bool true) (fun K9 hK9=>by go_simp;exact hK9) ?_
   (try simp only[pq])
   refine zap (by rw[hO];kernel_rfl) ?_
   (try simp only[pq])
   refine zap (by rw[hO];kernel_rfl) ?_
   (try simp only[pq])
   refine zap (by rw[hO];kernel_rfl) ?_
   (try simp only[pq])
   refine zaa (by rw[hO];kernel_rfl) (.bool true) (fun K9 hK9=>by go_simp;exact hK9) ?_
   (try simp only[pq])
   go_wp2_with fail
   go_ret
   exact ⟨rfl,tn g1 g2⟩
  | true =>
   by_cases h30:30<n
   ·have hz:(30:Int)<(n:Int):=by omega
    go_enter Tryz.func6,Tryz.ntmps6
    go_upto_region 1 with fail
    refine za9 fun O hO => ?_
    refine zaa (by rw[hO];kernel_rfl) (.slice ao n c) (fun K9 hK9=>by go_simp;exact hK9) ?_
    (try simp only[pq])
    refine za1 (by rw[hO];kernel_rfl) fun K9 hK9 => ?_
    go_simp
    go_at_call 7
    refine (uh HCA _ (zab _ _)).mono ?_
    rintro e w1 ⟨rfl,g1⟩
    refine hK9 _ _ ?_
    clear hK9 K9
    (try simp only[pq])
    refine zaa (by rw[hO];kernel_rfl) (.bool false) (fun K9 hK9=>by go_simp;exact hK9) ?_
    (try simp only[pq])
    refine zaa (by rw[hO];kernel_rfl) (.bool false) (fun K9 hK9=>by go_simp;exact hK9) ?_
    (try simp only[pq])
    refine zaa (by rw[hO];kernel_rfl) (.slice bo m d) (fun K9 hK9=>by go_simp;exact hK9) ?_
    (try simp only[pq])
    refine za1 (by rw[hO];kernel_rfl) fun K9 hK9 => ?_
    go_simp
    go_at_call 7
    refine (uh HCB _ g1).mono ?_
    rintro e w2 ⟨rfl,g2⟩
    refine hK9 _ _ ?_
    clear hK9 K9
    (try simp only[pq])
    refine zaa (by rw[hO];kernel_rfl) (.bool false) (fun K9 hK9=>by go_simp;exact hK9) ?_
    (try simp only[pq])
    refine zaa (by rw[hO];kernel_rfl) (.bool false) (fun K9 hK9=>by go_simp;exact hK9) ?_
    (try simp only[pq])
    refine zaa (by rw[hO];kernel_rfl) (.bool false) (fun K9 hK9=>by go_simp;exact hK9) ?_
    (try simp only[pq])
    refine zaa (by rw[hO];kernel_rfl) (.slice ao n c) (fun K9 hK9=>by go_simp;exact hK9) ?_
    (try simp only[pq])
    refine zaa (by rw[hO];kernel_rfl) (.int .i64 (n:Int)) (fun K9 hK9=>by go_simp;exact hK9) ?_
    (try simp only[pq])
    refine zaa (by rw[hO];kernel_rfl) (.bool true) (fun K9 hK9=>by go_simp;exact hK9) ?_
    (try simp only[pq])
    refine zaa (by rw[hO];kernel_rfl) (.bool true) (fun K9 hK9=>by go_simp;exact hK9) ?_
    (try simp only[pq])
    refine zaa (by rw[hO];kernel_rfl) (.bool true) (fun K9 hK9=>by go_simp;exact hK9) ?_
    (try simp only[pq])
    refine zap (by rw[hO];kernel_rfl) ?_
    (try simp only[pq])
    refine zap (by rw[hO];kernel_rfl) ?_
    (try simp only[pq])
    refine zap (by rw[hO];kernel_rfl) ?_
    (try simp only[pq])
    refine zaa (by rw[hO];kernel_rfl) (.bool true) (fun K9 hK9=>by go_simp;exact hK9) ?_
    (try simp only[pq])
    go_wp2_with fail
    go_ret
    exact ⟨rfl,tn g1 g2⟩
   ·have hz:¬ (30:Int)<(n:Int):=by omega
    by_cases h31:30<m
    ·have hz2:(30:Int)<(m:Int):=by omega
     go_enter Tryz.func6,Tryz.ntmps6
     go_upto_region 1 with fail
     refine za9 fun O hO => ?_
     refine zaa (by rw[hO];kernel_rfl) (.slice ao n c) (fun K9 hK9=>by go_simp;exact hK9) ?_
     (try simp only[pq])
     refine za1 (by rw[hO];kernel_rfl) fun K9 hK9 => ?_
     go_simp
     go_at_call 7
     refine (uh HCA _ (zab _ _)).mono ?_
     rintro e w1 ⟨rfl,g1⟩
     refine hK9 _ _ ?_
     clear hK9 K9
     (try simp only[pq])
     refine zaa (by rw[hO];kernel_rfl) (.bool false) (fun K9 hK9=>by go_simp;exact hK9) ?_
     (try simp only[pq])
     refine zaa (by rw[hO];kernel_rfl) (.bool false) (fun K9 hK9=>by go_simp;exact hK9) ?_
     (try simp only[pq])
     refine zaa (by rw[hO];kernel_rfl) (.slice bo m d) (fun K9 hK9=>by go_simp;exact hK9) ?_
     (try simp only[pq])
     refine za1 (by rw[hO];kernel_rfl) fun K9 hK9 => ?_
     go_simp
     go_at_call 7
     refine (uh HCB _ g1).mono ?_
     rintro e w2 ⟨rfl,g2⟩
     refine hK9 _ _ ?_
     clear hK9 K9
     (try simp only[pq])
     refine zaa (by rw[hO];kernel_rfl) (.bool false) (fun K9 hK9=>by go_simp;exact hK9) ?_
     (try simp only[pq])
     refine zaa (by rw[hO];kernel_rfl) (.bool false) (fun K9 hK9=>by go_simp;exact hK9) ?_
     (try simp only[pq])
     refine zaa (by rw[hO];kernel_rfl) (.bool false) (fun K9 hK9=>by go_simp;exact hK9) ?_
     (try simp only[pq])
     refine zaa (by rw[hO];kernel_rfl) (.slice ao n c) (fun K9 hK9=>by go_simp;exact hK9) ?_
     (try simp only[pq])
     refine zaa (by rw[hO];kernel_rfl) (.int .i64 (n:Int)) (fun K9 hK9=>by go_simp;exact hK9) ?_
     (try simp only[pq])
     refine zaa (by rw[hO];kernel_rfl) (.bool false) (fun K9 hK9=>by go_simp;exact hK9) ?_
     (try simp only[pq])
     refine zaa (by rw[hO];kernel_rfl) (.bool false) (fun K9 hK9=>by go_simp;exact hK9) ?_
     (try simp only[pq])
     refine zaa (by rw[hO];kernel_rfl) (.bool false) (fun K9 hK9=>by go_simp;exact hK9) ?_
     (try simp only[pq])
     refine zaa (by rw[hO];kernel_rfl) (.slice bo m d) (fun K9 hK9=>by go_simp;exact hK9) ?_
     (try simp only[pq])
     refine zaa (by rw[hO];kernel_rfl) (.int .i64 (m:Int)) (fun K9 hK9=>by go_simp;exact hK9) ?_
     (try simp only[pq])
     refine zaa (by rw[hO];kernel_rfl) (.bool true) (fun K9 hK9=>by go_simp;exact hK9) ?_
     (try simp only[pq])
     refine zaa (by rw[hO];kernel_rfl) (.bool true) (fun K9 hK9=>by go_simp;exact hK9) ?_
     (try simp only[pq])
     go_wp2_with fail
     go_ret
     exact ⟨rfl,tn g1 g2⟩
    ·have hz2:¬ (30:Int)<(m:Int):=by omega
     have hsa:zbo (A.map (·.o))≤60000:=by have:=(uh HSA).symm;simpa using this
     have hsb:zbo (B.map (·.o))≤60000:=by have:=(uh HSB).symm;simpa using this
     have HSS:=hide (And.intro hsa hsb)
     clear hsa hsb
     go_enter Tryz.func6,Tryz.ntmps6
     go_upto_region 1 with fail
     refine za9 fun O hO => ?_
     refine zaa (by rw[hO];kernel_rfl) (.slice ao n c) (fun K9 hK9=>by go_simp;exact hK9) ?_
     (try simp only[pq])
     refine za1 (by rw[hO];kernel_rfl) fun K9 hK9 => ?_
     go_simp
     go_at_call 7
     refine (uh HCA _ (zab _ _)).mono ?_
     rintro e w1 ⟨rfl,g1⟩
     refine hK9 _ _ ?_
     clear hK9 K9
     (try simp only[pq])
     refine zaa (by rw[hO];kernel_rfl) (.bool false) (fun K9 hK9=>by go_simp;exact hK9) ?_
     (try simp only[pq])
     refine zaa (by rw[hO];kernel_rfl) (.bool false) (fun K9 hK9=>by go_simp;exact hK9) ?_
     (try simp only[pq])
     refine zaa (by rw[hO];kernel_rfl) (.slice bo m d) (fun K9 hK9=>by go_simp;exact hK9) ?_
     (try simp only[pq])
     refine za1 (by rw[hO];kernel_rfl) fun K9 hK9 => ?_
     go_simp
     go_at_call 7
     refine (uh HCB _ g1).mono ?_
     rintro e w2 ⟨rfl,g2⟩
     refine hK9 _ _ ?_
     clear hK9 K9
     (try simp only[pq])
     refine zaa (by rw[hO];kernel_rfl) (.bool false) (fun K9 hK9=>by go_simp;exact hK9) ?_
     (try simp only[pq])
     refine zaa (by rw[hO];kernel_rfl) (.bool false) (fun K9 hK9=>by go_simp;exact hK9) ?_
     (try simp only[pq])
     refine zaa (by rw[hO];kernel_rfl) (.bool false) (fun K9 hK9=>by go_simp;exact hK9) ?_
     (try simp only[pq])
     refine zaa (by rw[hO];kernel_rfl) (.slice ao n c) (fun K9 hK9=>by go_simp;exact hK9) ?_
     (try simp only[pq])
     refine zaa (by rw[hO];kernel_rfl) (.int .i64 (n:Int)) (fun K9 hK9=>by go_simp;exact hK9) ?_
     (try simp only[pq])
     refine zaa (by rw[hO];kernel_rfl) (.bool false) (fun K9 hK9=>by go_simp;exact hK9) ?_
     (try simp only[pq])
     refine zaa (by rw[hO];kernel_rfl) (.bool false) (fun K9 hK9=>by go_simp;exact hK9) ?_
     (try simp only[pq])
     refine zaa (by rw[hO];kernel_rfl) (.bool false) (fun K9 hK9=>by go_simp;exact hK9) ?_
     (try simp only[pq])
     refine zaa (by rw[hO];kernel_rfl) (.slice bo m d) (fun K9 hK9=>by go_simp;exact hK9) ?_
     (try simp only[pq])
     refine zaa (by rw[hO];kernel_rfl) (.int .i64 (m:Int)) (fun K9 hK9=>by go_simp;exact hK9) ?_
     (try simp only[pq])
     refine zaa (by rw[hO];kernel_rfl) (.bool false) (fun K9 hK9=>by go_simp;exact hK9) ?_
     (try simp only[pq])
     refine zaa (by rw[hO];kernel_rfl) (.bool false) (fun K9 hK9=>by go_simp;exact hK9) ?_
     (try simp only[pq])
     have HG2:=hide (tn g1 g2)
     clear g1 g2
     have cp:=ze1 w2 ao c A ((uh HA).kept (uh HG2)) (by have:=(uh HN).1;omega) ((uh HT).kept0 (uh HG2))
     rw[← (uh HN).1] at cp
     clear HCA HCB HSA HSB
     go_wp2_with fail
     refine cp.mono ?_
     rintro e w3 ⟨v3,x,y3,rfl,hp3,⟨a3,c3,rfl,hb3,_⟩,g3⟩
     clear cp
     have HG3:=hide (tn (uh HG2) g3)
     have cp:=ze1 w3 bo d B ((uh HB).kept (uh HG3)) (by have:=(uh HN).2;omega) ((uh HT).kept0 (uh HG3))
     rw[← (uh HN).2] at cp
     obtain ⟨HP3,HB3⟩:=zh2 hp3 hb3
     obtain ⟨xl,hxl⟩:∃ z,z=x.length:=⟨_,rfl⟩
     rw[← hxl]
     have HXL:=hide hxl
     clear hp3 hb3 g3 hxl
     go_wp2_with fail
     refine cp.mono ?_
     rintro e w4 ⟨v4,y,y4,rfl,hp4,⟨a4,c4,rfl,hb4,_⟩,g4⟩
     clear cp
     have HG4:=hide (tn (uh HG3) g4)
     have hT4:=(uh HT).kept0 (uh HG4)
     obtain ⟨yl,hyl⟩:∃ z,z=y.length:=⟨_,rfl⟩
     rw[← hyl]
     obtain ⟨HYL,HP4⟩:=zh2 hyl hp4
     have HB3b:=hide ((uh HB3).kept g4 (fun _ e=>by cases e))
     have HB4:=hide hb4
     clear hp4 hb4 g4 hyl HB3
     rcases zjt (uh HP3) (uh HSS).1 with h3 | ⟨rfl,s,qa,pa,la⟩
     ·have h3z:(y3 == 0)=false:=by simpa using h3
      go_wp2_with (go_at_call 12;refine (zd6 _ hT4).mono ?_;rintro e w9 ⟨rfl,g9⟩)
      go_ret
      exact ⟨rfl,tn (uh HG4) g9⟩
     ·rcases zjt (uh HP4) (uh HSS).2 with h4 | ⟨rfl,t,qb,pb,lb4⟩
      ·have h4z:(y4 == 0)=false:=by simpa using h4
       clear qa pa la
       go_wp2_with (go_at_call 12;refine (zd6 _ hT4).mono ?_;rintro e w9 ⟨rfl,g9⟩)
       go_ret
       exact ⟨rfl,tn (uh HG4) g9⟩
      ·obtain ⟨la2,hla2⟩:∃ l,l=A.map (·.o):=⟨_,rfl⟩
       obtain ⟨lb2,hlb2⟩:∃ l,l=B.map (·.o):=⟨_,rfl⟩
       rw[← hla2] at qa
       rw[← hlb2] at qb
       have htw:TwoP la2 lb2 x y s t:=⟨pa,pb,qa,qb⟩
       have hnl:n=la2.length∧m=lb2.length:=by rw[hla2,hlb2];simp;exact uh HN
       obtain ⟨HTW,HNL⟩:=zh2 htw hnl
       have HLA:=hide (And.intro hla2 hlb2)
       have HLE:=hide (And.intro la lb4)
       clear qa pa la qb pb lb4 htw hnl hla2 hlb2 hT4 HP3 HP4 HSS
       go_wp2_with fail
       go_loopw [9,10,11,12] (fun v9 vi _x11 _x12 wr=>∃ (i:Nat) (kb:Bool),vi = .int .i64 i∧i≤n∧v9 = .bool kb∧Hid (kb=zdi la2 t i∧w4.grownBy wr none)) (fun _ vi _ _ _=>n - (intOf vi).toNat)
       case atStart=>exact ⟨0,false,rfl,Nat.zero_le _,rfl,⟨(zk7 _ _).symm,zab _ _⟩⟩
       case round =>
        obtain ⟨i,kb,rfl,hin,rfl,HR⟩:=hrel
        have HG5:=hide (tn (uh HG4) (uh HR).2)
        by_cases hi:i<n
        ·have hiz:(i:Int)<(n:Int):=by omega
         have hiw:IntKind.i64.wrap ((i:Int)+1)=(i:Int)+1:=by rw[IntKind.wrap_i64];omega
         have hiL:i<A.length:=by rw[← (uh HN).1];exact hi
         obtain ⟨ob,oo,hao,hrow0,hbt0⟩:=(uh HA).at i hiL
         subst hao
         obtain ⟨r,hr⟩:∃ r,r=A[i]:=⟨_,rfl⟩
         rw[← hr] at hrow0 hbt0
         have hlo:la2[i]? = some r.o:=by
          rw[(uh HLA).1,List.getElem?_map,List.getElem?_eq_getElem hiL,← hr];rfl
         have hmem:r.o∈la2:=List.mem_of_getElem? hlo
         obtain ⟨rk,rd,rao,rc2⟩:=r
         simp only[ObP.o] at hlo hmem hrow0 hbt0
         have hok:OkO (rk,rd):=(uh HTW).ok _ (List.mem_append_left _ hmem)
         have hdl:rd.length≤16384:=by obtain ⟨_,_,_,_,h⟩:=zdq hok;exact h
         obtain ⟨dl,hdl2⟩:∃ z,z=rd.length:=⟨_,rfl⟩
         obtain ⟨OC,hOC⟩:∃ C:List Value,C=[.int .i64 rk,.slice rao dl rc2]:=⟨_,rfl⟩
         obtain ⟨IB,hIB⟩:∃ I,I=obId (rk,rd):=⟨_,rfl⟩
         have hIBl:IB.length=32:=by rw[hIB];exact zbe _
         obtain ⟨KB,hKB⟩:∃ k,k=IB.map bv:=⟨_,rfl⟩
         have hg5:=uh HG5
         have hnx:=zk8 (s:=t) hlo
         rw[← hIB,← (uh HR).1] at hnx
         have hro:wr.rangeAt ob (oo+i*2) OC:=by
          have:=zad hrow0 hg5 (by simp)
          rw[hOC,hdl2];exact this
         have cid:=zg5 wr rk rao rc2 rd (hbt0.kept hg5 (fun _ e=>by cases e)) (by omega) ((uh HT).kept0 hg5)
         rw[← hdl2,show shaL (putL rk rd)=IB by rw[hIB];rfl,← hKB,show Value.agg #[.int .i64 rk,.slice rao dl rc2] = .agg OC.toArray by rw[hOC]] at cid
         have HCFI:Hid (∀ V,wr.grownBy V none→Calls Tryz.prog 18 #[.slice a4 yl c4,.agg KB.toArray] V fun e w'=>zi1 V w' y IB e):=fun V g=>by
          have:=zfy V a4 c4 y ((uh HB4).kept (tn (uh HR).2 g) (fun _ e=>by cases e)) (by have:=(uh HLE).2;omega) ((uh HT).kept0 (tn hg5 g)) IB hIBl
          rw[← uh HYL,← hKB] at this
          exact this
         have HIO:Hid ((Tryz.prog.info? 42).map (·.size)=some OC.length):=by rw[hOC];exact zbz
         have HNX:=hide hnx
         clear hrow0 hbt0 hr hlo hmem hok hdl hdl2 hOC hIB hIBl hKB hnx hiL hg5
         go_wp2_with (first
          | (refine wpList_load_mid rfl 42 _ rfl ob (oo+i*2) rfl OC _ hro Tryz.underlying42 rfl (uh HIO) ?_;clear hro)
          | (go_at_call 17;refine cid.mono ?_;rintro e w5 ⟨rfl,g5⟩;clear cid;have cfi:=uh HCFI w5 g5;have HG5w:=hide g5;clear g5))
         refine cfi.mono ?_
         rintro e w6 h6
         clear cfi HCFI
         obtain ⟨k6,a6,n6,c6,y6,rfl,hy6,g6⟩:=zg7 h6 (uh HTW).pb
         clear h6
         obtain ⟨O2,hO2⟩:∃ C:List Value,C=[.int .i64 k6,.slice a6 n6 c6]:=⟨_,rfl⟩
         obtain ⟨W7,hW7,hBZ,hB7,g7⟩:=zfv w6 O2
         have hIO2:(Tryz.prog.info? 42).map (·.size)=some O2.toArray.size:=by rw[hO2];exact zbz
         have hOO:O2.toArray.all (·.oneCell')=true:=by rw[hO2];simp[Value.oneCell']
         have hZS:([Value.int .i64 0,.slice none 0 0]:List Value).toArray.size=O2.toArray.size:=by rw[hO2];rfl
         have HAG:=hide (show Value.agg #[.int .i64 k6,.slice a6 n6 c6] = .agg O2.toArray by rw[hO2])
         obtain ⟨HW7,HBZ,HIO2,HOO,HZS,HY6⟩:=zh6 hW7 hBZ hIO2 hOO hZS hy6
         have HG7:=hide (tn (uh HR).2 (tn (tn (uh HG5w) g6) g7))
         clear hO2 hW7 hBZ hB7 g7 g6 hIO2 hOO hZS hy6
         rw[uh HAG]
         go_upto_region 12 with (refine wpList_store_row rfl 42 _ _ rfl w6.heap.size O2.toArray rfl rfl _ _ (uh HBZ) (uh HIO2) (uh HZS) (uh HOO) ?_;rw[← uh HW7])
         cases kb with
         | true =>
          have HD2:=hide (show true=zdi la2 t (i+1) by rw[uh HNX];simp)
          go_wp2_with fail
          go_roundw
          case rel=>exact ⟨i+1,true,by go_num,by omega,rfl,⟨uh HD2,uh HG7⟩⟩
          case measure=>simp[intOf];omega
         | false =>
          by_cases hx:IB∈t.map obId
          ·obtain rfl:y6=0:=by rw[uh HY6,if_pos hx]
           have HD2:=hide (show true=zdi la2 t (i+1) by rw[uh HNX];simpa using hx)
           clear hx
           go_wp2_with fail
           go_roundw
           case rel=>exact ⟨i+1,true,by go_num,by omega,rfl,⟨uh HD2,uh HG7⟩⟩
           case measure=>simp[intOf];omega
          ·obtain rfl:y6=13:=by rw[uh HY6,if_neg hx]
           have HD2:=hide (show false=zdi la2 t (i+1) by rw[uh HNX];simpa using hx)
           clear hx
           go_wp2_with fail
           go_roundw
           case rel=>exact ⟨i+1,false,by go_num,by omega,rfl,⟨uh HD2,uh HG7⟩⟩
           case measure=>simp[intOf];omega
        ·have hiz:¬ (i:Int)<(n:Int):=by omega
         have hin2:i=la2.length:=by have:=(uh HNL).1;omega
         have hkb:=(uh HR).1
         rw[hin2] at hkb
         have HKB:=hide hkb
         clear hin2 hkb hi
         obtain ⟨W8,hW8,hO8,g8⟩:=zqb wr 42 2 wr.heap.size (Nat.le_refl _)
         have hg5:=uh HG5
         have hw8:Obw W8 w.heap.size wr.heap.size (.slice (some ⟨wr.heap.size,0,none⟩) 0 0) []:=⟨hO8,(fun _ e=>by cases e),(fun _ e=>by cases e),hg5.size⟩
         have HA8:=hide ((uh HA).kept (tn hg5 g8))
         have HB8:=hide ((uh HB).kept (tn hg5 g8))
         have HTA:Hid (∀ r∈A,0<r.d.length→∀ ad,r.ao=some ad→ad.block<w.heap.size):=fun r hr h ad e=>zm1 ((uh HA).bts r hr) h ad e
         have HTB:Hid (∀ r∈B,0<r.d.length→∀ ad,r.ao=some ad→ad.block<w.heap.size):=fun r hr h ad e=>zm1 ((uh HB).bts r hr) h ad e
         have hbase:wr.heap.size≤W8.heap.size:=g8.size
         have HG8:=hide (tn (uh HR).2 g8)
         obtain ⟨HR8,HW8,HWO⟩:=zh3 g8 hW8 hw8
         have hlen:([]++A).length+B.length≤100000:=by simp;have:=uh HN;omega
         clear hW8 hO8 g8 hw8 hg5
         go_upto_region 13 with fail
         refine za9 fun O hO => ?_
         refine za1 (by rw[hO];kernel_rfl) fun K9 hK9 => ?_
         go_simp
         rw[← uh HW8]
         refine hK9 _ _ ?_
         clear hK9 K9
         (try simp only[pq])
         refine zaa (by rw[hO];kernel_rfl) (.slice ao n c) (fun K9 hK9=>by go_simp;exact hK9) ?_
         (try simp only[pq])
         refine zcs rfl _ _ rfl wr.heap.size _ [] A rfl (uh HWO).own ao n c rfl (uh HN).1 (uh HA8) (by simp at hlen ⊢;omega) hbase ?_
         intro v9 w9 ho9 g9
         have hw9:=(uh HWO).puts (uh HA8).bts (uh HTA) g9 ho9
         have gw9:wr.grownBy w9 none:=zac (uh HR8) g9 (fun y e=>Or.inl (World.ownsRow.lt (uh HWO).own y e).1)
         have hB9:Obsl w9 bo d B:=(uh HB).kept (tn (uh HG5) gw9)
         have hbase9:wr.heap.size≤w9.heap.size:=gw9.size
         clear ho9 g9
         (try simp only[pq])
         refine zaa (by rw[hO];kernel_rfl) (.slice bo m d) (fun K9 hK9=>by go_simp;exact hK9) ?_
         (try simp only[pq])
         refine zcs rfl _ _ rfl wr.heap.size _ ([]++A) B rfl hw9.own bo m d rfl (uh HN).2 hB9 (by omega) hbase9 ?_
         intro v11 w11 ho11 g11
         have hw11:=hw9.puts hB9.bts (uh HTB) g11 ho11
         have gw11:wr.grownBy w11 none:=zac gw9 g11 (fun y e=>Or.inl (World.ownsRow.lt hw9.own y e).1)
         obtain ⟨za,zc,rfl,hS11⟩:=hw11.sl
         have HG11:=hide (tn (uh HG5) gw11)
         have HR11:=hide (tn (uh HR).2 gw11)
         have cp:=ze1 w11 za zc _ hS11 (by rw[List.length_append];omega) ((uh HT).kept0 (uh HG11))
         obtain ⟨nz,hnz⟩:∃ z,z=([]++A++B).length:=⟨_,rfl⟩
         rw[← hnz] at cp ⊢
         clear hw9 gw9 hB9 hbase9 ho11 g11 hw11 gw11 hS11 hnz
         (try simp only[pq])
         refine za1 (by rw[hO];kernel_rfl) fun K9 hK9 => ?_
         go_simp
         go_at_call 8
         refine (cp).mono ?_
         rintro e w12 ⟨v12,z,yz,rfl,hp12,⟨a12,c12,rfl,hb12,_⟩,g12⟩
         clear cp
         have hp13:PutP (la2++lb2) z yz:=by rw[(uh HLA).1,(uh HLA).2,← List.map_append];simpa using hp12
         obtain ⟨HP12,HB12⟩:=zh2 hp13 hb12
         have HG12:=hide (tn (uh HG11) g12)
         have HR12:=hide (tn (uh HR11) g12)
         obtain ⟨zl,hzl⟩:∃ k,k=z.length:=⟨_,rfl⟩
         rw[← hzl]
         have HZL:=hide hzl
         clear hp12 hp13 hb12 g12 hzl
         refine hK9 _ _ ?_
         clear hK9 K9
         (try simp only[pq])
         refine zaa (by rw[hO];kernel_rfl) (.tuple #[.slice a12 zl c12,.int .i64 yz]) (fun K9 hK9=>by go_simp;exact hK9) ?_
         (try simp only[pq])
         refine zaa (by rw[hO];kernel_rfl) (.slice a12 zl c12) (fun K9 hK9=>by go_simp;exact hK9) ?_
         (try simp only[pq])
         refine zaa (by rw[hO];kernel_rfl) (.int .i64 yz) (fun K9 hK9=>by go_simp;exact hK9) ?_
         (try simp only[pq])
         refine zaa (by rw[hO];kernel_rfl) (.slice a12 zl c12) (fun K9 hK9=>by go_simp;exact hK9) ?_
         (try simp only[pq])
         refine zaa (by rw[hO];kernel_rfl) (.int .i64 yz) (fun K9 hK9=>by go_simp;exact hK9) ?_
         (try simp only[pq])
         go_upto_region 14 with fail
         clear hlen hbase
         have hl60:(la2++lb2).length≤256:=by rw[List.length_append];have:=uh HNL;omega
         have hT12:=(uh HT).kept0 (uh HG12)
         cases kb with
         | true =>
          obtain ⟨rfl,rfl⟩:=(uh HTW).bad hl60 (uh HP12) (uh HKB).symm
          obtain rfl:zl=0:=uh HZL
          clear hl60
          go_wp2_with (go_at_call 12;refine (zd6 _ hT12).mono ?_;rintro e w13 ⟨rfl,g13⟩)
          go_ret
          exact ⟨rfl,tn (uh HG12) g13⟩
         | false =>
          obtain ⟨rfl,r,p1,p2,hzl2,hrl⟩:=(uh HTW).good hl60 (uh HP12) (uh HKB).symm
          have hz9:z.length≤200000:=by have:=uh HLE;omega
          have ci:=zk4 w12 a12 c12 z (uh HB12) hz9 hT12
          rw[← uh HZL] at ci
          obtain ⟨rn,hrn⟩:∃ k,k=r.length:=⟨_,rfl⟩
          have hrn2:rn=n+m:=by rw[hrn,hrl,(uh HNL).1,(uh HNL).2]
          have hz3:zl+6=xl+yl:=by rw[uh HZL,uh HXL,uh HYL];exact hzl2
          have HPR:=hide (And.intro p1 p2)
          obtain ⟨HZ9,HRN⟩:=zh2 hz9 hrn
          have hx9:xl≤60006∧yl≤60006:=by rw[uh HXL,uh HYL];exact uh HLE
          clear hl60 p1 p2 hzl2 hrl hz9 hrn hT12
          go_wp2_with fail
          refine ci.mono ?_
          rintro e w13 h13
          clear ci
          rcases h13 with ⟨v13,r2,rfl,hPr,hI,g13⟩ | ⟨rfl,hno,g13⟩
          ·obtain rfl:r2=r:=hPr.one (uh HPR).2
           rw[← uh HRN] at hI
           obtain ⟨pa,pc,rfl⟩:=zb3 hI
           have HI:=hide hI
           have HG13:=hide (tn (uh HG12) g13)
           have HB13:=hide ((uh HB12).kept g13 (fun _ e=>by cases e))
           have HR13:=hide (tn (uh HR12) g13)
           have hnm:IntKind.i64.wrap ((n:Int)+(m:Int))=(rn:Int):=by rw[IntKind.wrap_i64];omega
           have hxy:IntKind.i64.wrap ((xl:Int)+(yl:Int))=((xl+yl:Nat):Int):=by rw[IntKind.wrap_i64];omega
           have hxy6:IntKind.i64.wrap (((xl+yl:Nat):Int) - 6)=(zl:Int):=by rw[IntKind.wrap_i64];omega
           have HNUM:=hide (And.intro hrn2 (And.intro hz3 hx9))
           obtain ⟨xy,hxye⟩:∃ k,k=xl+yl:=⟨_,rfl⟩
           rw[← hxye] at hxy hxy6
           clear hPr hI g13 hrn2 hz3 hx9 hxye HB12
           go_upto_region 17 with fail
           refine za9 fun O hO => ?_
           refine zaa (by rw[hO];kernel_rfl) (.int .i64 (0:Int)) (fun K9 hK9=>by go_simp;exact hK9) ?_
           (try simp only[pq])
           refine zaa (by rw[hO];kernel_rfl) (.bool false) (fun K9 hK9=>by go_simp;exact hK9) ?_
           (try simp only[pq])
           refine zaa (by rw[hO];kernel_rfl) (.bool false) (fun K9 hK9=>by go_simp;exact hK9) ?_
           (try simp only[pq])
           refine zaa (by rw[hO];kernel_rfl) (.int .i64 (0:Int)) (fun K9 hK9=>by go_simp;exact hK9) ?_
           (try simp only[pq])
           refine zaa (by rw[hO];kernel_rfl) (.bool false) (fun K9 hK9=>by go_simp;exact hK9) ?_
           (try simp only[pq])
           refine zaa (by rw[hO];kernel_rfl) (.bool false) (fun K9 hK9=>by go_simp;exact hK9) ?_
           (try simp only[pq])
           refine zaa (by rw[hO];kernel_rfl) (.bool false) (fun K9 hK9=>by go_simp;exact hK9) ?_
           (try simp only[pq])
           refine zaa (by rw[hO];kernel_rfl) (.slice pa rn pc) (fun K9 hK9=>by go_simp;exact hK9) ?_
           (try simp only[pq])
           refine zaa (by rw[hO];kernel_rfl) (.int .i64 (rn:Int)) (fun K9 hK9=>by go_simp;exact hK9) ?_
           (try simp only[pq])
           refine zaa (by rw[hO];kernel_rfl) (.slice ao n c) (fun K9 hK9=>by go_simp;exact hK9) ?_
           (try simp only[pq])
           refine zaa (by rw[hO];kernel_rfl) (.int .i64 (n:Int)) (fun K9 hK9=>by go_simp;exact hK9) ?_
           (try simp only[pq])
           refine zaa (by rw[hO];kernel_rfl) (.slice bo m d) (fun K9 hK9=>by go_simp;exact hK9) ?_
           (try simp only[pq])
           refine zaa (by rw[hO];kernel_rfl) (.int .i64 (m:Int)) (fun K9 hK9=>by go_simp;exact hK9) ?_
           (try simp only[pq])
           refine zaa (by rw[hO];kernel_rfl) (.int .i64 (rn:Int)) (fun K9 hK9=>by go_simp;exact hK9) ?_
           (try simp only[pq])
           refine zaa (by rw[hO];kernel_rfl) (.bool false) (fun K9 hK9=>by go_simp;exact hK9) ?_
           (try simp only[pq])
           refine zaa (by rw[hO];kernel_rfl) (.bool false) (fun K9 hK9=>by go_simp;exact hK9) ?_
           (try simp only[pq])
           refine zaa (by rw[hO];kernel_rfl) (.bool false) (fun K9 hK9=>by go_simp;exact hK9) ?_
           (try simp only[pq])
           refine zaa (by rw[hO];kernel_rfl) (.slice a12 zl c12) (fun K9 hK9=>by go_simp;exact hK9) ?_
           (try simp only[pq])
           refine zaa (by rw[hO];kernel_rfl) (.int .i64 (zl:Int)) (fun K9 hK9=>by go_simp;exact hK9) ?_
           (try simp only[pq])
           refine zaa (by rw[hO];kernel_rfl) (.slice a3 xl c3) (fun K9 hK9=>by go_simp;exact hK9) ?_
           (try simp only[pq])
           refine zaa (by rw[hO];kernel_rfl) (.int .i64 (xl:Int)) (fun K9 hK9=>by go_simp;exact hK9) ?_
           (try simp only[pq])
           refine zaa (by rw[hO];kernel_rfl) (.slice a4 yl c4) (fun K9 hK9=>by go_simp;exact hK9) ?_
           (try simp only[pq])
           refine zaa (by rw[hO];kernel_rfl) (.int .i64 (yl:Int)) (fun K9 hK9=>by go_simp;exact hK9) ?_
           (try simp only[pq])
           refine zaa (by rw[hO];kernel_rfl) (.int .i64 (xy:Int)) (fun K9 hK9=>by go_simp;exact hK9) ?_
           (try simp only[pq])
           refine zaa (by rw[hO];kernel_rfl) (.int .i64 (zl:Int)) (fun K9 hK9=>by go_simp;exact hK9) ?_
           (try simp only[pq])
           refine zaa (by rw[hO];kernel_rfl) (.bool false) (fun K9 hK9=>by go_simp;exact hK9) ?_
           (try simp only[pq])
           refine zaa (by rw[hO];kernel_rfl) (.bool false) (fun K9 hK9=>by go_simp;exact hK9) ?_
           (try simp only[pq])
           clear hnm hxy hxy6
           go_wp2_with fail
           go_loopw [17,18,19,20,21,22,23] (fun vi _x18 _x19 _x20 _x21 _x22 _x23 wr=>∃ i:Nat,vi = .int .i64 i∧i≤rn∧Hid (w13.grownBy wr none)) (fun vi _ _ _ _ _ _ _=>rn - (intOf vi).toNat)
           case atStart=>exact ⟨0,rfl,Nat.zero_le _,zab _ _⟩
           case round =>
            obtain ⟨i,rfl,hin,HGL⟩:=hrel
            have HG5:=hide (tn (uh HG13) (uh HGL))
            by_cases hi:i<rn
            ·have hiz:(i:Int)<(rn:Int):=by omega
             have hiw:IntKind.i64.wrap ((i:Int)+1)=(i:Int)+1:=by have:=(uh HNUM).1;rw[IntKind.wrap_i64];omega
             have hir:i<r2.length:=by rw[← uh HRN];exact hi
             obtain ⟨pr1,pr2⟩:=uh HPR
             obtain ⟨o,ho⟩:∃ o,o=r2[i]:=⟨_,rfl⟩
             have hmem:o∈la2++lb2:=pr1.mem_iff.1 (by rw[ho];exact List.getElem_mem _)
             have hok:OkO o:=pr2.ok o (by rw[ho];exact List.getElem_mem _)
             have hdl:o.2.length≤16384:=by obtain ⟨_,_,_,_,h⟩:=zdq hok;exact h
             obtain ⟨hsg1,hsg2⟩:=zg6 pr2 hir
             have hI2:w13.ownsRow w12.heap.size 49 34 (.slice pa rn pc) (List.range rn).length ((List.range rn).flatMap (plO r2)):=by
              rw[List.length_range]
              exact uh HI
             obtain ⟨x2,c2,e2,hRw,-⟩:=Rws.own (plO r2) hI2 (fun j _=>zmx r2 j)
             obtain ⟨pb,po,e3,hrow0⟩:=hRw.at i (by rw[List.length_range];exact hi)
             have hpa:pa=some ⟨pb,po,none⟩:=by injection e2 with e4;rw[e4];exact e3
             subst hpa
             rw[List.getElem_range,zoz hir] at hrow0
             obtain ⟨IB,hIB⟩:∃ I,I=obId o:=⟨_,rfl⟩
             have hIBl:IB.length=32:=by rw[hIB];exact zbe _
             obtain ⟨KB,hKB⟩:∃ k,k=IB.map bv:=⟨_,rfl⟩
             obtain ⟨at9,hat9⟩:∃ z,z=offO r2 i:=⟨_,rfl⟩
             obtain ⟨n9,hn9⟩:∃ z,z=5+o.2.length:=⟨_,rfl⟩
             rw[← ho,← hat9,← hn9] at hsg1 hsg2 hrow0
             rw[← hIB] at hrow0
             have hrow:=zad hrow0 (uh HGL) (by simp)
             have hc32:wr.cell? ⟨pb,po+i*34+32,none⟩=some (.int .i64 (at9:Int)):=hrow 32 _ (zo1 IB hIBl _ _)
             have hc33:wr.cell? ⟨pb,po+i*34+33,none⟩=some (.int .i64 (n9:Int)):=hrow 33 _ (zo2 IB hIBl _ _)
             have hKR0:wr.rangeAt pb (po+i*34) KB:=by
              intro j u hj
              refine hrow j u ?_
              unfold plC
              rw[← hKB,List.getElem?_append_left (List.getElem?_eq_some_iff.1 hj).1]
              exact hj
             have hzl:=uh HZL
             have hbz:=(uh HB13).kept (uh HGL) (fun _ e=>by cases e)
             have hfit:=hbz.fits
             obtain ⟨hi9,hhi9⟩:∃ z,z=at9+n9:=⟨_,rfl⟩
             have hz9:=uh HZ9
             have hwa:IntKind.i64.wrap ((at9:Int)+(n9:Int))=(hi9:Int):=by rw[IntKind.wrap_i64];omega
             have hsl:∀ W:World,(Instr.slice 24 (.slice a12 zl c12) (some (.int .i64 (at9:Int))) (some (.int .i64 (hi9:Int))) none).run Tryz.prog W = .ok (.slice (cutA a12 c12 at9) n9 (c12 - at9)) W:=fun W=>by
              have:=zjs W 24 5 Tryz.underlying24 zau a12 zl c12 at9 hi9 (by omega) (by omega)
              rw[show hi9 - at9=n9 by omega] at this
              exact this
             have hbo:Bts wr (cutA a12 c12 at9) (c12 - at9) (obB o):=by
              have:=(hbz.drop at9 (by omega)).take n9 (by simp;omega)
              rw[hsg2] at this
              exact this
             obtain ⟨ok1,od⟩:=o
             simp only at hdl hn9
             obtain ⟨dl,hdl2⟩:∃ z,z=od.length:=⟨_,rfl⟩
             have HRD:Hid (∀ V,wr.grownBy V none→Calls Tryz.prog 20 #[.slice (cutA a12 c12 at9) n9 (c12 - at9)] V fun e w'=>∃ va vc,e = .returned (.tuple #[.agg #[.int .i64 ok1,.slice va dl vc],.int .i64 0])∧Bts w' va vc od∧(∀ ad,va=some ad→Typ w' ad.block)∧V.grownBy w' none):=fun V g=>by
              have:=zhx V _ _ (obB (ok1,od)) (hbo.kept g (fun _ e=>by cases e)) (by rw[zfn];simp only;omega)
              rw[zo0 hok,zfn] at this
              simp only at this
              rw[← hn9] at this
              refine this.mono ?_
              rintro e w' ⟨v,y,kk,rfl,rfl,rfl,⟨va,vc,rfl,hb,ht⟩,g2⟩
              exact ⟨va,vc,by rw[hdl2],hb,fun ad e=>(ht ad e).2,g2⟩
             have HCID:Hid (∀ V va vc,wr.grownBy V none→Bts V va vc od→Calls Tryz.prog 17 #[.agg #[.int .i64 ok1,.slice va dl vc]] V fun e w'=>e = .returned (.agg KB.toArray)∧V.grownBy w' none):=fun V va vc g hb=>by
              have:=zg5 V ok1 va vc od hb (by omega) ((uh HT).kept0 (tn (uh HG5) g))
              rw[← hdl2] at this
              rw[hKB,hIB]
              exact this
             have HCX:Hid (∀ V,wr.grownBy V none→Calls Tryz.prog 18 #[.slice a3 xl c3,.agg KB.toArray] V fun e w'=>zi1 V w' x IB e):=fun V g=>by
              have:=zfy V a3 c3 x ((uh HB3b).kept (tn (tn (uh HR13) (uh HGL)) g) (fun _ e=>by cases e)) (by have:=(uh HLE).1;omega) ((uh HT).kept0 (tn (uh HG5) g)) IB hIBl
              rw[← uh HXL,← hKB] at this
              exact this
             have HCY:Hid (∀ V,wr.grownBy V none→Calls Tryz.prog 18 #[.slice a4 yl c4,.agg KB.toArray] V fun e w'=>zi1 V w' y IB e):=fun V g=>by
              have:=zfy V a4 c4 y ((uh HB4).kept (tn (tn (uh HR13) (uh HGL)) g) (fun _ e=>by cases e)) (by have:=(uh HLE).2;omega) ((uh HT).kept0 (tn (uh HG5) g)) IB hIBl
              rw[← uh HYL,← hKB] at this
              exact this
             have hea:=(uh HTW).each (uh HKB).symm hmem
             rw[← hIB] at hea
             obtain ⟨HEA,HKR⟩:=zh2 hea hKR0
             have HIK:Hid ((Tryz.prog.info? 47).map (·.size)=some KB.length):=by rw[hKB,List.length_map,hIBl];exact zax
             have HNQ:Hid (∀ W:World,(binOp .neq 47 (.agg KB.toArray) (.agg KB.toArray)).run Tryz.prog W = .ok (.bool false) W):=fun W=>by rw[hKB,zqc W IB IB hIBl hIBl];simp
             have hsp32:po+i*34+32=po+i*34+32:=rfl
             obtain ⟨WD,hWD⟩:∃ W,W=wr.drew:=⟨_,rfl⟩
             have h0:wr.grownBy wr.drew none:=zas (zab _ _)
             have h1:wr.grownBy WD none:=by rw[hWD];exact h0
             have HWD:=hide hWD
             clear hir pr1 pr2 ho hmem hok hdl hsg1 hsg2 hI2 hRw e2 e3 hrow0 hIB hIBl hKB hat9 hn9 hrow hKR0 hzl hbz hfit hhi9 hz9 hbo hdl2 hea hsp32 hWD
             go_upto_region 22 with fail
             go_cut [18,19] (fun v18 v19 wx=>∃ (q:Nat) (va:Option Addr) (vc:Nat),v18 = .pointer (some ⟨q,0,none⟩)∧v19 = .int .i64 0∧Hid (Blk wx q 42 [.int .i64 ok1,.slice va dl vc]∧Bts wx va vc od∧wr.grownBy wx none))
             case first =>
              refine wp_region_noPanic ?_
              refine wp_region_held_drew (S:=fun V=>wr.grownBy V none) (by kernel_rfl) h0 (fun _ => ?_)
              rw[← uh HWD]
              refine tq 0 139 (.move (.tmp 13)) (.slice a12 zl c12) h1 ?_
              refine tq 1 140 (.move (.tmp 15)) (.slice (some ⟨pb,po,none⟩) rn pc) h1 ?_
              refine tq 2 141 (.move (.tmp 17)) (.int .i64 (i:Int)) h1 ?_
              refine tq 6 145 (.move (.tmp 15)) (.slice (some ⟨pb,po,none⟩) rn pc) h1 ?_
              (try simp only[pq])
              refine tq 7 146 (.move (.tmp 17)) (.int .i64 (i:Int)) h1 ?_
              refine tq 11 150 (.move (.tmp 15)) (.slice (some ⟨pb,po,none⟩) rn pc) h1 ?_
              refine tq 12 151 (.move (.tmp 17)) (.int .i64 (i:Int)) h1 ?_
              refine tq 3 142 (.indexAddr 38 (.tmp 140) (.tmp 141)) (.pointer (some ⟨pb,po+i*34,none⟩)) h1 ?_
              (try simp only[pq])
              refine tq 8 147 (.indexAddr 38 (.tmp 145) (.tmp 146)) (.pointer (some ⟨pb,po+i*34,none⟩)) h1 ?_
              refine tq 13 152 (.indexAddr 38 (.tmp 150) (.tmp 151)) (.pointer (some ⟨pb,po+i*34,none⟩)) h1 ?_
              refine tq 4 143 (.fieldAddr 49 (.tmp 142) 1) (.pointer (some ⟨pb,po+i*34+32,none⟩)) h1 ?_
              refine tq 9 148 (.fieldAddr 49 (.tmp 147) 1) (.pointer (some ⟨pb,po+i*34+32,none⟩)) h1 ?_
              (try simp only[pq])
              refine tq 14 153 (.fieldAddr 49 (.tmp 152) 2) (.pointer (some ⟨pb,po+i*34+33,none⟩)) h1 ?_
              refine tz 5 144 (.load 3 (.tmp 143)) (.int .i64 (at9:Int)) h1 ?_ (y:=(Or.inl ⟨by rfl,fun V hV=>by (have hv1:=hV.cell hc32 (by simp);go_simp)⟩))
              refine tz 10 149 (.load 3 (.tmp 148)) (.int .i64 (at9:Int)) h1 ?_ (y:=(Or.inl ⟨by rfl,fun V hV=>by (have hv1:=hV.cell hc32 (by simp);go_simp)⟩))
              refine tz 15 154 (.load 3 (.tmp 153)) (.int .i64 (n9:Int)) h1 ?_ (y:=(Or.inl ⟨by rfl,fun V hV=>by (have hv1:=hV.cell hc33 (by simp);go_simp)⟩))
              (try simp only[pq])
              refine tq 16 155 (.binOp .add 3 (.tmp 149) (.tmp 154) 3) (.int .i64 (hi9:Int)) h1 ?_
              refine tq 17 156 (.slice 24 (.tmp 139) (some (.tmp 144)) (some (.tmp 155)) none) (.slice (cutA a12 c12 at9) n9 (c12 - at9)) h1 ?_
              (try simp only[pq])
              refine wpAnyH_ready (rs:=[18,22]) (by kernel_rfl) (by simp) ?_
              refine AllReadyH.cons (o:=⟨some 157,.call { callee := .value (.func 20),args := #[(.tmp 156)],argTypes := #[24] },_,_,_,_⟩) rfl (fun K9 hK9 => ?_) (AllReadyH.cons (o:=⟨some 18,.alloc 42,_,_,_,_⟩) rfl (fun K9 hK9 => ?_) AllReadyH.nil)
              ·go_simp
               go_at_call 20
               refine (uh HRD WD h1).mono ?_
               rintro e w15 ⟨va,vc,rfl,hbv,htv,g15⟩
               go_wp2_with fail
               have h2:=tn h1 g15
               refine hK9.out _ _ h2 (fun _ => ?_)
               clear hK9 K9
               refine tq 19 138 (.move (.tmp 157)) (.tuple #[.agg #[.int .i64 ok1,.slice va dl vc],.int .i64 0]) h2 ?_
               refine tq 20 158 (.extract (.tmp 138) 0) (.agg #[.int .i64 ok1,.slice va dl vc]) h2 ?_
               refine tq 21 159 (.extract (.tmp 138) 1) (.int .i64 0) h2 ?_
               (try simp only[pq])
               refine rdq 22 (some 18) (.alloc 42) (fun K9 hK9 => ?_)
               obtain ⟨wa,hwa,hBa,ga⟩:∃ W2,W2=World.alloc w15 (.cells #[.int .i64 0,.slice none 0 0] 42)∧Blk W2 (w15).heap.size 42 [.int .i64 0,.slice none 0 0]∧World.grownBy w15 W2 none:=zah _ _ _
               have hp:wr.heap.size≤(w15).heap.size:=(h2).size
               have ha:=tn h2 ga
               have hbv2:=hbv.kept ga (fun _ e=>by cases e)
               have htv2:∀ ad,va=some ad→Typ wa ad.block:=fun ad e=>(htv ad e).kept ga (by simp)
               go_simp
               rw[← hwa]
               refine hK9.out _ _ ha (fun _ => ?_)
               clear hK9 K9 hwa
               (try simp only[pq])
               refine rdq 23 none (.store 42 (.tmp 18) (.tmp 158)) (fun K9 hK9 => ?_)
               rw[if_pos (by rfl)]
               refine wp_store_row _ _ _ rfl (w15).heap.size #[.int .i64 ok1,.slice va dl vc] rfl rfl _ _ hBa zam rfl (zhz _ _ _ _) ?_
               obtain ⟨ws,hws⟩:∃ V,V=World.setRow wa (w15).heap.size #[.int .i64 ok1,.slice va dl vc]:=⟨_,rfl⟩
               have gs:World.grownBy wa ws (some (w15).heap.size):=by rw[hws];exact zaq (zab _ _) _ (Or.inr rfl)
               have hs:wr.grownBy ws none:=by rw[hws];exact zaq ha _ (Or.inl hp)
               have hC:Blk ws (w15).heap.size 42 [.int .i64 ok1,.slice va dl vc]:=by rw[hws];exact hBa.row [.int .i64 ok1,.slice va dl vc]
               have hbs:Bts ws va vc od:=hbv2.kept gs (fun z e ad e2 e3=>by injection e with e;exact zfz (htv2 ad e2) hBa (by decide) (by omega))
               rw[← hws]
               clear hws
               refine hK9.out _ _ hs (fun _ => ?_)
               clear hK9 K9
               (try simp only[Act.put])
               refine tq 24 19 (.assign (.tmp 159)) (.int .i64 0) hs ?_
               (try simp only[pq])
               refine wpAnyH_done (by kernel_rfl) ?_ _
               refine NoPanic.normal ?_
               go_wp2_with fail
               go_meet
               case rel=>exact ⟨_,va,vc,rfl,rfl,⟨hC,hbs,hs⟩⟩
              ·obtain ⟨wa,hwa,hBa,ga⟩:∃ W2,W2=World.alloc WD (.cells #[.int .i64 0,.slice none 0 0] 42)∧Blk W2 (WD).heap.size 42 [.int .i64 0,.slice none 0 0]∧World.grownBy WD W2 none:=zah _ _ _
               have hp:wr.heap.size≤(WD).heap.size:=(h1).size
               have ha:=tn h1 ga
               go_simp
               rw[← hwa]
               refine hK9.out _ _ ha (fun _ => ?_)
               clear hK9 K9 hwa
               (try simp only[pq])
               refine rdq 18 (some 157) (.call { callee := .value (.func 20),args := #[(.tmp 156)],argTypes := #[24] }) (fun K9 hK9 => ?_)
               go_simp
               go_at_call 20
               refine (uh HRD wa ha).mono ?_
               rintro e w15 ⟨va,vc,rfl,hbv,htv,g15⟩
               go_wp2_with fail
               have h2:=tn ha g15
               have hBb:=hBa.kept g15 (by simp)
               refine hK9.out _ _ h2 (fun _ => ?_)
               clear hK9 K9
               refine tq 19 138 (.move (.tmp 157)) (.tuple #[.agg #[.int .i64 ok1,.slice va dl vc],.int .i64 0]) h2 ?_
               refine tq 20 158 (.extract (.tmp 138) 0) (.agg #[.int .i64 ok1,.slice va dl vc]) h2 ?_
               refine tq 21 159 (.extract (.tmp 138) 1) (.int .i64 0) h2 ?_
               (try simp only[pq])
               refine rdq 23 none (.store 42 (.tmp 18) (.tmp 158)) (fun K9 hK9 => ?_)
               rw[if_pos (by rfl)]
               refine wp_store_row _ _ _ rfl (WD).heap.size #[.int .i64 ok1,.slice va dl vc] rfl rfl _ _ hBb zam rfl (zhz _ _ _ _) ?_
               obtain ⟨ws,hws⟩:∃ V,V=World.setRow w15 (WD).heap.size #[.int .i64 ok1,.slice va dl vc]:=⟨_,rfl⟩
               have gs:World.grownBy w15 ws (some (WD).heap.size):=by rw[hws];exact zaq (zab _ _) _ (Or.inr rfl)
               have hs:wr.grownBy ws none:=by rw[hws];exact zaq h2 _ (Or.inl hp)
               have hC:Blk ws (WD).heap.size 42 [.int .i64 ok1,.slice va dl vc]:=by rw[hws];exact hBb.row [.int .i64 ok1,.slice va dl vc]
               have hbs:Bts ws va vc od:=hbv.kept gs (fun z e ad e2 e3=>by injection e with e;exact zfz (htv ad e2) hBb (by decide) (by omega))
               rw[← hws]
               clear hws
               refine hK9.out _ _ hs (fun _ => ?_)
               clear hK9 K9
               (try simp only[Act.put])
               refine tq 24 19 (.assign (.tmp 159)) (.int .i64 0) hs ?_
               (try simp only[pq])
               refine wpAnyH_done (by kernel_rfl) ?_ _
               refine NoPanic.normal ?_
               go_wp2_with fail
               go_meet
               case rel=>exact ⟨_,va,vc,rfl,rfl,⟨hC,hbs,hs⟩⟩
             case rest =>
              obtain ⟨q,va,vc,rfl,rfl,HQ⟩:=hcut
              clear hc32 hc33 hwa hsl h0 h1 HWD HRD
              have HQG:=hide (uh HQ).2.2
              have hk1:=zad (uh HKR) (uh HQG) (by simp)
              go_wp2_with (refine wpList_load_mid rfl 47 _ rfl pb (po+i*34) rfl KB _ hk1 Tryz.underlying47 rfl (uh HIK) ?_;clear hk1)
              refine (uh HCX _ (uh HQG)).mono ?_
              rintro e wfP hfP
              obtain ⟨kP,aP,nP,cP,yP,rfl,hyP,gfP⟩:=zg7 hfP (uh HTW).pa
              clear hfP
              obtain ⟨OP,hOP⟩:∃ C:List Value,C=[.int .i64 kP,.slice aP nP cP]:=⟨_,rfl⟩
              obtain ⟨WP,hWP,hZP,hBP,gP⟩:=zfv wfP OP
              have HIP:=hide (show (Tryz.prog.info? 42).map (·.size)=some OP.toArray.size by rw[hOP];exact zbz)
              have HOP:=hide (show OP.toArray.all (·.oneCell')=true by rw[hOP];simp[Value.oneCell'])
              have HSP:=hide (show ([Value.int .i64 0,.slice none 0 0]:List Value).toArray.size=OP.toArray.size by rw[hOP];rfl)
              have HAP:=hide (show Value.agg #[.int .i64 kP,.slice aP nP cP] = .agg OP.toArray by rw[hOP])
              obtain ⟨HWP,HZP,HYP⟩:=zh3 hWP hZP hyP
              have HGP:=hide (tn (uh HQG) (tn gfP gP))
              have GQP:=tn gfP gP
              clear hOP hWP hZP hBP gP gfP hyP
              rw[uh HAP]
              have hk2:=zad (uh HKR) (uh HGP) (by simp)
              go_wp2_with (first | (refine wpList_store_row rfl 42 _ _ rfl wfP.heap.size OP.toArray rfl rfl _ _ (uh HZP) (uh HIP) (uh HSP) (uh HOP) ?_;rw[← uh HWP]) | (refine wpList_load_mid rfl 47 _ rfl pb (po+i*34) rfl KB _ hk2 Tryz.underlying47 rfl (uh HIK) ?_;clear hk2))
              refine (uh HCY _ (uh HGP)).mono ?_
              rintro e wfR hfR
              obtain ⟨kR,aR,nR,cR,yR,rfl,hyR,gfR⟩:=zg7 hfR (uh HTW).pb
              clear hfR
              obtain ⟨OR,hOR⟩:∃ C:List Value,C=[.int .i64 kR,.slice aR nR cR]:=⟨_,rfl⟩
              obtain ⟨WR,hWR,hZR,hBR,gR⟩:=zfv wfR OR
              have HIR:=hide (show (Tryz.prog.info? 42).map (·.size)=some OR.toArray.size by rw[hOR];exact zbz)
              have HOR:=hide (show OR.toArray.all (·.oneCell')=true by rw[hOR];simp[Value.oneCell'])
              have HSR:=hide (show ([Value.int .i64 0,.slice none 0 0]:List Value).toArray.size=OR.toArray.size by rw[hOR];rfl)
              have HAR:=hide (show Value.agg #[.int .i64 kR,.slice aR nR cR] = .agg OR.toArray by rw[hOR])
              obtain ⟨HWR,HZR,HYR⟩:=zh3 hWR hZR hyR
              have HGR:=hide (tn (uh HGP) (tn gfR gR))
              have GQR:=tn GQP (tn gfR gR)
              clear hOR hWR hZR hBR gR gfR hyR
              rw[uh HAR]
              go_upto_region 25 with (refine wpList_store_row rfl 42 _ _ rfl wfR.heap.size OR.toArray rfl rfl _ _ (uh HZR) (uh HIR) (uh HSR) (uh HOR) ?_;rw[← uh HWR])
              have HBQ:=hide (zal ((uh HQ).1.kept GQR (by simp)))
              have HBT:=hide ((uh HQ).2.1.kept GQR (fun _ e=>by cases e))
              have HKR2:=hide (zad (uh HKR) (uh HGR) (by simp))
              have h0:WR.grownBy WR.drew none:=zas (zab _ _)
              rcases uh HEA with ⟨e1,e2⟩ | ⟨e1,e2⟩
              ·obtain rfl:yP=0:=by rw[uh HYP,if_pos e1]
               obtain rfl:yR=13:=by rw[uh HYR,if_neg e2]
               clear e1 e2
               refine wp_region_noPanic ?_
               refine wp_region_held_drew (S:=fun V=>WR.grownBy V none) (by kernel_rfl) h0 (fun _ => ?_)
               refine tq 0 180 (.move (.tmp 19)) ((.int .i64 (0:Int))) h0 ?_
               refine tq 1 181 (.binOp .neq 25 (.tmp 180) (.const (.int .i64 0)) 25) ((.bool false)) h0 ?_
               refine tq 2 182 (.move (.tmp 181)) ((.bool false)) h0 ?_
               refine tz 3 183 (.load 42 (.tmp 18)) (.agg [Value.int .i64 ok1,Value.slice va dl vc].toArray) h0 ?_ (y:=(yieldsIf_load_mid (by rfl) _ _ rfl _ _ rfl [Value.int .i64 ok1,Value.slice va dl vc] _ (fun V hV=>zad (uh HBQ) hV (by simp)) Tryz.underlying42 rfl zam))
               (try simp only[pq])
               refine tq 5 185 (.move (.tmp 15)) ((.slice (some ⟨pb,po,none⟩) rn pc)) h0 ?_
               refine tq 6 186 (.move (.tmp 17)) ((.int .i64 (i:Int))) h0 ?_
               refine tq 7 187 (.indexAddr 38 (.tmp 185) (.tmp 186)) ((.pointer (some ⟨pb,po+i*34,none⟩))) h0 ?_
               refine tq 8 188 (.fieldAddr 49 (.tmp 187) 0) ((.pointer (some ⟨pb,po+i*34,none⟩))) h0 ?_
               (try simp only[pq])
               refine tz 9 189 (.load 47 (.tmp 188)) (.agg KB.toArray) h0 ?_ (y:=(yieldsIf_load_mid (by rfl) _ _ rfl _ _ rfl KB _ (fun V hV=>zad (uh HKR2) hV (by simp)) Tryz.underlying47 rfl (uh HIK)))
               (try simp only[pq])
               refine rdq 4 (some 184) (.call { callee := .value (.func 17),args := #[(.tmp 183)],argTypes := #[42] }) (fun K9 hK9 => ?_)
               go_simp
               go_at_call 17
               refine (uh HCID _ va vc (tn (uh HGR) h0) ((uh HBT).kept h0 (fun _ e=>by cases e))).mono ?_
               rintro e w9 ⟨rfl,g9⟩
               have h9:=tn h0 g9
               go_wp2_with fail
               refine hK9.out _ _ h9 (fun _ => ?_)
               clear hK9 K9
               refine tz 10 190 (.binOp .neq 47 (.tmp 184) (.tmp 189) 47) (.bool false) h9 ?_ (y:=(zfg (by rfl) 47 47 _ _ rfl _ _ false rfl rfl zh1 (uh HNQ)))
               refine tq 11 191 (.pick (.tmp 182) (.const (.bool true)) (.tmp 190)) ((.bool false)) h9 ?_
               refine tq 12 192 (.move (.tmp 191)) ((.bool false)) h9 ?_
               (try simp only[pq])
               refine tq 13 193 (.move (.tmp 21)) ((.int .i64 (0:Int))) h9 ?_
               refine tq 14 194 (.binOp .eql 25 (.tmp 193) (.const (.int .i64 0)) 25) ((.bool true)) h9 ?_
               refine tq 15 195 (.move (.tmp 23)) ((.int .i64 (13:Int))) h9 ?_
               refine tq 16 196 (.binOp .eql 25 (.tmp 195) (.const (.int .i64 0)) 25) ((.bool false)) h9 ?_
               (try simp only[pq])
               refine tq 17 197 (.binOp .eql 4 (.tmp 194) (.tmp 196) 4) ((.bool false)) h9 ?_
               refine tq 18 198 (.pick (.tmp 192) (.const (.bool true)) (.tmp 197)) ((.bool false)) h9 ?_
               (try simp only[pq])
               refine wpAnyH_done (by kernel_rfl) ?_ _
               refine NoPanic.normal ?_
               go_wp2_with fail
               go_roundw
               case rel=>exact ⟨i+1,by go_num,by omega,tn (uh HGL) (tn (uh HGR) h9)⟩
               case measure=>simp[intOf];omega
              ·obtain rfl:yP=13:=by rw[uh HYP,if_neg e1]
               obtain rfl:yR=0:=by rw[uh HYR,if_pos e2]
               clear e1 e2
               refine wp_region_noPanic ?_
               refine wp_region_held_drew (S:=fun V=>WR.grownBy V none) (by kernel_rfl) h0 (fun _ => ?_)
               refine tq 0 180 (.move (.tmp 19)) ((.int .i64 (0:Int))) h0 ?_
               refine tq 1 181 (.binOp .neq 25 (.tmp 180) (.const (.int .i64 0)) 25) ((.bool false)) h0 ?_
               refine tq 2 182 (.move (.tmp 181)) ((.bool false)) h0 ?_
               refine tz 3 183 (.load 42 (.tmp 18)) (.agg [Value.int .i64 ok1,Value.slice va dl vc].toArray) h0 ?_ (y:=(yieldsIf_load_mid (by rfl) _ _ rfl _ _ rfl [Value.int .i64 ok1,Value.slice va dl vc] _ (fun V hV=>zad (uh HBQ) hV (by simp)) Tryz.underlying42 rfl zam))
               (try simp only[pq])
               refine tq 5 185 (.move (.tmp 15)) ((.slice (some ⟨pb,po,none⟩) rn pc)) h0 ?_
               refine tq 6 186 (.move (.tmp 17)) ((.int .i64 (i:Int))) h0 ?_
               refine tq 7 187 (.indexAddr 38 (.tmp 185) (.tmp 186)) ((.pointer (some ⟨pb,po+i*34,none⟩))) h0 ?_
               refine tq 8 188 (.fieldAddr 49 (.tmp 187) 0) ((.pointer (some ⟨pb,po+i*34,none⟩))) h0 ?_
               (try simp only[pq])
               refine tz 9 189 (.load 47 (.tmp 188)) (.agg KB.toArray) h0 ?_ (y:=(yieldsIf_load_mid (by rfl) _ _ rfl _ _ rfl KB _ (fun V hV=>zad (uh HKR2) hV (by simp)) Tryz.underlying47 rfl (uh HIK)))
               (try simp only[pq])
               refine rdq 4 (some 184) (.call { callee := .value (.func 17),args := #[(.tmp 183)],argTypes := #[42] }) (fun K9 hK9 => ?_)
               go_simp
               go_at_call 17
               refine (uh HCID _ va vc (tn (uh HGR) h0) ((uh HBT).kept h0 (fun _ e=>by cases e))).mono ?_
               rintro e w9 ⟨rfl,g9⟩
               have h9:=tn h0 g9
               go_wp2_with fail
               refine hK9.out _ _ h9 (fun _ => ?_)
               clear hK9 K9
               refine tz 10 190 (.binOp .neq 47 (.tmp 184) (.tmp 189) 47) (.bool false) h9 ?_ (y:=(zfg (by rfl) 47 47 _ _ rfl _ _ false rfl rfl zh1 (uh HNQ)))
               refine tq 11 191 (.pick (.tmp 182) (.const (.bool true)) (.tmp 190)) ((.bool false)) h9 ?_
               refine tq 12 192 (.move (.tmp 191)) ((.bool false)) h9 ?_
               (try simp only[pq])
               refine tq 13 193 (.move (.tmp 21)) ((.int .i64 (13:Int))) h9 ?_
               refine tq 14 194 (.binOp .eql 25 (.tmp 193) (.const (.int .i64 0)) 25) ((.bool false)) h9 ?_
               refine tq 15 195 (.move (.tmp 23)) ((.int .i64 (0:Int))) h9 ?_
               refine tq 16 196 (.binOp .eql 25 (.tmp 195) (.const (.int .i64 0)) 25) ((.bool true)) h9 ?_
               (try simp only[pq])
               refine tq 17 197 (.binOp .eql 4 (.tmp 194) (.tmp 196) 4) ((.bool false)) h9 ?_
               refine tq 18 198 (.pick (.tmp 192) (.const (.bool true)) (.tmp 197)) ((.bool false)) h9 ?_
               (try simp only[pq])
               refine wpAnyH_done (by kernel_rfl) ?_ _
               refine NoPanic.normal ?_
               go_wp2_with fail
               go_roundw
               case rel=>exact ⟨i+1,by go_num,by omega,tn (uh HGL) (tn (uh HGR) h9)⟩
               case measure=>simp[intOf];omega
            ·have hiz:¬ (i:Int)<(rn:Int):=by omega
             go_wp2_with (go_at_call 12;refine (zd6 _ ((uh HT).kept0 (uh HG5))).mono ?_;rintro e w15 ⟨rfl,g15⟩)
             go_ret
             exact ⟨rfl,tn (uh HG5) g15⟩
          ·exact absurd (uh HPR).2 (hno _)
end Go.Proofs.YtegbbkgmiklhcaaGreatDoor
