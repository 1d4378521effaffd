/- Lemmas. -/
import Derived.Test.YtegbbkgmiklhcaaGreatDoorPkQ
import Derived.Deep.DeepCutAuto
namespace Go.Proofs.YtegbbkgmiklhcaaGreatDoor
open Go.RowKit
def zmv (L:List ObP) (j:Nat):List ObP:=(List.range L.length).map fun i=>L.getD ((i+j) % L.length) default
theorem zkr (L:List ObP) (j:Nat):((zmv L j).map (·.o)).Perm (L.map (·.o)):=(zim L j).map _
theorem zhl (L:List ObP) (j:Nat):(zmv L j).length=L.length:=by simp[zmv]
set_option maxRecDepth 100000 in
set_option maxHeartbeats 8000000 in
theorem zks (w:World) (ao:Option Addr) (c:Nat) (L:List ObP) (hO:Obsl w ao c L) (tu:Int) (x:List UInt8) (hx:x.length=32) (hT:Tabs w) :
  Calls Tryz.prog 5 #[.slice ao L.length c,.int .i64 tu,.agg (x.map bv).toArray] w fun e w'=>e = .returned (.bool true)∧w.grownBy w' none:=by
 have hm:L.length≤9223372036854775807:=by have h1:=hO.fits;have h2:=hO.most;unfold maxLen at h2;omega
 obtain ⟨n,hn⟩:∃ n,n=L.length:=⟨_,rfl⟩
 obtain ⟨KX,hKX⟩:∃ k,k=x.map bv:=⟨_,rfl⟩
 have hKl:KX.length=32:=by rw[hKX,List.length_map,hx]
 obtain ⟨W1,hW1,hB1,g1⟩:=zah w 47 KX
 have hO1:=hO.kept g1
 have cs:=zmd W1 ao c L hO1 hm
 rw[← hn] at cs ⊢
 rw[← hKX]
 have HW1:=hide hW1
 by_cases hs:za8 (L.map (·.o))≤60000
 ·have hsd:decide (za8 (L.map (·.o))≤60000)=true:=by simpa using hs
  rw[hsd] at cs
  have hfew:=zmc hs
  rw[List.length_map,← hn] at hfew
  by_cases h40:40<n
  ·have hz:(40:Int)<(n:Int):=by omega
   clear hm hO hO1 hT hs hsd hn hKl hKX hB1 hW1
   go_enter Tryz.func5,Tryz.ntmps5
   go_wp2_with (rw[← uh HW1])
   refine cs.mono ?_
   rintro e w1 ⟨rfl,hw1⟩
   subst hw1
   go_wp2_with fail
   go_ret
   exact ⟨rfl,g1⟩
  ·have hz:¬ (40:Int)<(n:Int):=by omega
   have hT1:=hT.kept0 g1
   have cp:=zgw W1 ao c L hO1 (by omega) hT1
   rw[← hn] at cp
   obtain ⟨HKX,HKL,HX,HB1,HG1,HO⟩:=zh6 hKX hKl hx hB1 g1 hO1
   obtain ⟨HOW,HT,HN,HS⟩:=zh4 hO hT1 hn hs
   clear hm hO hO1 hT hT1 hs hsd hn hKX hKl hB1 g1 hW1 hx
   go_enter Tryz.func5,Tryz.ntmps5
   go_wp2_with (rw[← uh HW1])
   refine cs.mono ?_
   rintro e w1 ⟨rfl,hw1⟩
   subst hw1
   clear cs
   go_wp2_with fail
   refine cp.mono ?_
   rintro e w2 ⟨v2,b,y,rfl,hp,⟨a2,c2,rfl,hb2,_⟩,g2⟩
   clear cp
   by_cases hy:y=0
   ·subst hy
    obtain ⟨s,p1,p2⟩:=hp.2.2 rfl
    obtain ⟨M,j,hj,hMl,hMg,hMp⟩:∃ (M:List ObP) (j:Nat),(j≤63∧bits .and .i64 tu 63=(j:Int))∧M.length=n∧(∀ i,i<n→∃ h:(i+j) % n<L.length,∃ h2:i<M.length,M[i]=L[(i+j) % n])∧(M.map (·.o)).Perm (L.map (·.o)):=by
     obtain ⟨j,hj1,hj2⟩:=zm6 63 (by omega) tu
     refine ⟨zmv L j,j,⟨hj1,hj2⟩,by rw[zhl,uh HN],fun i hi => ?_,zkr L j⟩
     have hlt:(i+j) % n<L.length:=by rw[← uh HN];exact Nat.mod_lt _ (by omega)
     refine ⟨hlt,by rw[zhl,← uh HN];exact hi,?_⟩
     have e:∀ m (hm:m=L.length) (h:(i+j) % m<L.length),L.getD ((i+j) % L.length) default=L[(i+j) % m]:=fun m hm h=>by
      subst hm
      rw[List.getD_eq_getElem?_getD,List.getElem?_eq_getElem h];rfl
     simp only[zmv,List.getElem_map,List.getElem_range]
     exact e n (uh HN) hlt
    obtain ⟨bl,hbl⟩:∃ z,z=b.length:=⟨_,rfl⟩
    have hbs:=zkq p2 p1 (uh HS)
    obtain ⟨HP,HPK,HPM,HB2,HG2⟩:=zh5 hp p2 p1 hb2 g2
    have HBL:=hide (And.intro hbl hbs)
    have HM:=hide (And.intro hMl (And.intro hMg hMp))
    obtain ⟨hj1,hj2⟩:=hj
    clear hp p1 p2 hb2 g2 hMl hMg hMp hbs
    rw[← hbl]
    clear hbl
    go_wp2_with fail
    go_loopw [9,10] (fun v9 vi wr=>∃ i:Nat,vi = .int .i64 i∧i≤n∧Hid (Obw wr w1.heap.size w2.heap.size v9 (M.take i)∧w2.grownBy wr none)) (fun _ vi _=>n - (intOf vi).toNat)
    case atStart=>exact ⟨0,rfl,Nat.zero_le _,⟨Obw.nil _ (uh HG2).size,zaa _ _⟩⟩
    case round =>
     obtain ⟨i,rfl,hin,HR⟩:=hrel
     by_cases hi:i<n
     ·have hiz:(i:Int)<(n:Int):=by omega
      have hiw:IntKind.i64.wrap ((i:Int)+1)=(i:Int)+1:=by rw[IntKind.wrap_i64];omega
      have hn0:¬ n=0:=by omega
      obtain ⟨hMl,hMg,hMp⟩:=uh HM
      obtain ⟨hq1,hiM,hMi⟩:=hMg i hi
      obtain ⟨ij,hij⟩:∃ z,z=i+j:=⟨_,rfl⟩
      have hwij:IntKind.i64.wrap ((i:Int)+(j:Int))=(ij:Int):=by rw[IntKind.wrap_i64];omega
      obtain ⟨q,hq⟩:∃ z,z=ij % n:=⟨_,rfl⟩
      have htm:(ij:Int).tmod (n:Int)=(q:Int):=by rw[hq];rfl
      have hqn:q<n:=by rw[hq];exact Nat.mod_lt _ (by omega)
      have hqz:(q:Int)<(n:Int):=by omega
      have hqL:q<L.length:=by rw[← uh HN];exact hqn
      obtain ⟨ob,oo,hao,hrow0,hbt0⟩:=(uh HO).at q hqL
      subst hao
      obtain ⟨r,hr⟩:∃ r,r=L[q]:=⟨_,rfl⟩
      have hMr:M[i]=r:=by
       rw[hMi,hr]
       congr 1
       rw[hq,hij]
      rw[← hr] at hrow0 hbt0
      obtain ⟨hRo,hg⟩:=uh HR
      have hG:=tn (uh HG2) hg
      have hro:=zac hrow0 hG (by simp)
      have hbt:=hbt0.kept hG (fun _ e=>by cases e)
      obtain ⟨OC,hOC⟩:∃ C,C=obP r:=⟨_,rfl⟩
      rw[← hOC] at hro
      have hiO:(Tryz.prog.info? 42).map (·.size)=some OC.length:=by rw[hOC];exact zbs
      obtain ⟨W5,hW5,hB5,g5⟩:=zah wr 42 OC
      have hbs:(Instr.buildSlice 22 1 #[(0,.agg OC.toArray)]).run Tryz.prog wr = .ok (.slice (some ⟨wr.heap.size,0,none⟩) 1 1) W5:=by rw[hW5,hOC];exact zmf _ _ _ _ wr
      have hO5:=hRo.stay g5
      have htk:(M.take i).length=i:=by rw[List.length_take,hMl];omega
      have hown:=hO5.own
      rw[htk] at hown
      have hi9:i≤100000:=by omega
      have hbase:w2.heap.size≤W5.heap.size:=(tn hg g5).size
      have hM5:∀ p∈[r],Bts W5 p.ao p.c p.d:=fun p hp=>by rw[List.mem_singleton.1 hp];exact hbt.kept g5 (fun _ e=>by cases e)
      have hT5:∀ p∈[r],0<p.d.length→∀ ad,p.ao=some ad→ad.block<w1.heap.size:=fun p hp hl ad e=>by
       rw[List.mem_singleton.1 hp] at hl e
       exact zp3 hbt0 hl ad e
      have hnx:M.take (i+1)=M.take i++[r]:=by rw[List.take_succ_eq_append_getElem hiM,hMr]
      have hE1:∀ u∈OC,u.oneCell'=true:=by rw[hOC];exact zk3 r
      have hEl:OC.length=2:=by rw[hOC];rfl
      obtain ⟨HIO,HBS,HOWN,HO5,HB5⟩:=zh5 hiO hbs hown hO5 hB5
      have HG5:=hide (tn hg g5)
      have HMT:=hide (And.intro hM5 hT5)
      have HNX:=hide (And.intro hnx (And.intro htk hOC))
      obtain ⟨HE1,HEL,HROW⟩:=zh3 hE1 hEl hro
      clear hMl hMg hMp hq1 hMi hij hq hqL hrow0 hbt0 hr hMr hRo hg hG hro hbt hOC hiO hW5 hB5 g5 hbs hO5 htk hown hM5 hT5 hnx hE1 hEl hiM
      go_wp2_with (first
       | (refine wpList_load_mid rfl 42 _ rfl ob (oo+q*2) rfl OC _ (uh HROW) Tryz.underlying42 rfl (uh HIO) ?_;(try simp only[pq]))
       | (refine zau rfl 22 _ rfl (.agg OC.toArray) _ rfl (uh HBS) ?_;(try simp only[pq]))
       | (refine zcs rfl _ _ rfl w2.heap.size _ i _ rfl (uh HOWN) _ OC (uh HB5) (uh HEL) (uh HE1) rfl hi9 hbase ?_;intro v8 w8 ho8 g8;have HO8:=hide ho8;have HG8:=hide g8;clear ho8 g8;(try simp only[pq])))
      go_roundw
      case rel =>
       obtain ⟨x1,x2,x3⟩:=uh HNX
       refine ⟨i+1,by go_num,by omega,⟨?_,zab (uh HG5) (uh HG8) (fun y e=>Or.inl ((uh HO5).own.lt y e).1)⟩⟩
       rw[x1]
       refine (uh HO5).puts (uh HMT).1 (uh HMT).2 (uh HG8) ?_
       rw[List.length_append,x2,List.flatMap_append,List.flatMap_cons,List.flatMap_nil,List.append_nil,← x3]
       exact uh HO8
      case measure=>simp[intOf];omega
     ·have hiz:¬ (i:Int)<(n:Int):=by omega
      obtain ⟨hMl,hMg,hMp⟩:=uh HM
      obtain ⟨hRo,hg⟩:=uh HR
      rw[List.take_of_length_le (by omega)] at hRo
      obtain ⟨ma,mc,hv9,hS⟩:=hRo.sl
      have cq:=zgw wr ma mc M hS (by omega) ((uh HT).kept0 (tn (uh HG2) hg))
      rw[hMl] at cq hv9
      subst hv9
      have hpm:=(uh HP).perm hMp.symm
      have HPM2:=hide hpm
      have HGR:=hide (tn (uh HG2) hg)
      have HB3:=hide ((uh HB2).kept hg (fun _ e=>by cases e))
      have HG2R:=hide hg
      clear hMl hMg hMp hRo hg hS hpm HR
      go_wp2_with fail
      refine cq.mono ?_
      rintro e w3 ⟨v3,b',y',rfl,hp3,⟨a3,c3,rfl,hb3,_⟩,g3⟩
      clear cq
      obtain ⟨rfl,rfl⟩:=hp3.one (uh HPM2)
      have hG3:=tn (uh HGR) g3
      have hb4:=(uh HB3).kept g3 (fun _ e=>by cases e)
      have cr:=zfn w3 a2 c2 _ hb4 (by have:=(uh HBL).2;omega) ((uh HT).kept0 hG3)
      rw[← (uh HBL).1] at cr ⊢
      have HB4:=hide (And.intro hb4 hb3)
      have HG3:=hide hG3
      have HG23:=hide (tn (uh HG2R) g3)
      clear hp3 hb3 g3 hG3 hb4
      go_wp2_with fail
      refine cr.mono ?_
      rintro e w4 h4
      clear cr
      rcases h4 with ⟨v4,R,s4,rfl,hP4,hRs,hO4,g4⟩ | ⟨rfl,hno,g4⟩
      ·obtain rfl:s4=s:=hP4.one (uh HPK)
       obtain ⟨ra,rc,rfl,hS4⟩:=hO4.sl
       have hRl:R.length=n:=by
        have h1:=congrArg List.length hRs
        have h2:=(uh HPM).length_eq
        rw[List.length_map] at h1 h2
        rw[h1,h2,uh HN]
       rw[hRl]
       have hbk:=(uh HB4).1.kept g4 (fun _ e=>by cases e)
       have cv1:=za0 hbk
       have cv2:=za0 ((uh HB4).2.kept g4 (fun _ e=>by cases e))
       obtain ⟨TX,hTX⟩:∃ T,T=str b':=⟨_,rfl⟩
       rw[← hTX,← (uh HBL).1] at cv1 cv2
       have HG4:=hide (tn (uh HG3) g4)
       have HBK:=hide hbk
       have G24:=tn (uh HG23) g4
       clear hP4 hRs hO4 hS4 hRl hbk hTX g4
       go_upto_region 13 with fail
       refine zch fun O hO => ?_
       refine zad (by rw[hO];kernel_rfl) (.int .i64 (0:Int)) (fun K9 hK9=>by go_simp;exact hK9) ?_
       (try simp only[pq])
       refine zad (by rw[hO];kernel_rfl) (.bool false) (fun K9 hK9=>by go_simp;exact hK9) ?_
       (try simp only[pq])
       refine zad (by rw[hO];kernel_rfl) (.bool false) (fun K9 hK9=>by go_simp;exact hK9) ?_
       (try simp only[pq])
       refine zad (by rw[hO];kernel_rfl) (.int .i64 (0:Int)) (fun K9 hK9=>by go_simp;exact hK9) ?_
       (try simp only[pq])
       refine zad (by rw[hO];kernel_rfl) (.bool false) (fun K9 hK9=>by go_simp;exact hK9) ?_
       (try simp only[pq])
       refine zad (by rw[hO];kernel_rfl) (.bool false) (fun K9 hK9=>by go_simp;exact hK9) ?_
       (try simp only[pq])
       refine zad (by rw[hO];kernel_rfl) (.bool false) (fun K9 hK9=>by go_simp;exact hK9) ?_
       (try simp only[pq])
       refine zad (by rw[hO];kernel_rfl) (.slice a2 bl c2) (fun K9 hK9=>by go_simp;exact hK9) ?_
       (try simp only[pq])
       refine zad (by rw[hO];kernel_rfl) (.string TX) (fun K9 hK9=>by go_simp;exact hK9) ?_
       (try simp only[pq])
       refine zad (by rw[hO];kernel_rfl) (.slice a3 bl c3) (fun K9 hK9=>by go_simp;exact hK9) ?_
       (try simp only[pq])
       refine zad (by rw[hO];kernel_rfl) (.string TX) (fun K9 hK9=>by go_simp;exact hK9) ?_
       (try simp only[pq])
       refine zad (by rw[hO];kernel_rfl) (.bool false) (fun K9 hK9=>by go_simp;exact hK9) ?_
       (try simp only[pq])
       refine zad (by rw[hO];kernel_rfl) (.bool false) (fun K9 hK9=>by go_simp;exact hK9) ?_
       (try simp only[pq])
       refine zad (by rw[hO];kernel_rfl) (.bool false) (fun K9 hK9=>by go_simp;exact hK9) ?_
       (try simp only[pq])
       refine zad (by rw[hO];kernel_rfl) (.slice ra n rc) (fun K9 hK9=>by go_simp;exact hK9) ?_
       (try simp only[pq])
       refine zad (by rw[hO];kernel_rfl) (.int .i64 (n:Int)) (fun K9 hK9=>by go_simp;exact hK9) ?_
       (try simp only[pq])
       refine zad (by rw[hO];kernel_rfl) (.slice ao n c) (fun K9 hK9=>by go_simp;exact hK9) ?_
       (try simp only[pq])
       refine zad (by rw[hO];kernel_rfl) (.int .i64 (n:Int)) (fun K9 hK9=>by go_simp;exact hK9) ?_
       (try simp only[pq])
       refine zad (by rw[hO];kernel_rfl) (.bool false) (fun K9 hK9=>by go_simp;exact hK9) ?_
       (try simp only[pq])
       refine zad (by rw[hO];kernel_rfl) (.bool false) (fun K9 hK9=>by go_simp;exact hK9) ?_
       (try simp only[pq])
       clear cv1 cv2
       go_wp2_with fail
       obtain ⟨l,hl⟩:∃ l,l=L.map (·.o):=⟨_,rfl⟩
       have hll:l.length=n:=by rw[hl,List.length_map,uh HN]
       have HLL:=hide (And.intro hl hll)
       have HSM:Hid (∀ o,o∈l→o∈s4):=fun o ho=>(uh HPM).mem_iff.2 (by rw[← hl];exact ho)
       have HSN:Hid (∀ z,z∈s4.map obId↔z∈l.map obId):=fun z=>by rw[hl];exact ((uh HPM).map obId).mem_iff
       clear hl hll HM HPM2 HP HGR
       go_loopw [15,16,17,18] (fun v15 vi _x17 _x18 wr=>∃ (i:Nat) (kb:Bool),vi = .int .i64 i∧i≤n∧v15 = .bool kb∧Hid (kb=decide (x∈(l.take i).map obId)∧w4.grownBy wr none)) (fun _ vi _ _ _=>n - (intOf vi).toNat)
       case atStart=>exact ⟨0,false,rfl,Nat.zero_le _,rfl,⟨by simp,zaa _ _⟩⟩
       case round =>
        obtain ⟨i,kb,rfl,hin,rfl,HR2K⟩:=hrel
        have HGR:=hide (uh HR2K).2
        have HKB2:=hide (uh HR2K).1
        clear HR2K
        have HG5:=hide (tn (uh HG4) (uh HGR))
        by_cases hi:i<n
        ·have hiz:(i:Int)<(n:Int):=by omega
         have hiw:IntKind.i64.wrap ((i:Int)+1)=(i:Int)+1:=by rw[IntKind.wrap_i64];omega
         have hiL:i<L.length:=by rw[← uh HN];exact hi
         obtain ⟨ob,oo,hao,hrow0,hbt0⟩:=(uh HO).at i hiL
         subst hao
         obtain ⟨r,hr⟩:∃ r,r=L[i]:=⟨_,rfl⟩
         rw[← hr] at hrow0 hbt0
         have hil:i<l.length:=by rw[(uh HLL).2];exact hi
         have hlo:l[i]=r.o:=by
          have:∀ (l' : List Ob) (h:i<l'.length),l'=L.map (·.o)→l'[i]=(L[i]).o:=fun l' h e=>by subst e;simp
          rw[this l hil (uh HLL).1,hr]
         have hmem:r.o∈s4:=uh HSM _ (by rw[← hlo];exact List.getElem_mem _)
         obtain ⟨rk,rd,rao,rc2⟩:=r
         simp only[ObP.o] at hlo hmem hrow0 hbt0
         have hok:OkO (rk,rd):=(uh HPK).ok _ hmem
         have hdl:rd.length≤16384:=by obtain ⟨_,_,_,_,h⟩:=zfd hok;exact h
         obtain ⟨dl,hdl2⟩:∃ z,z=rd.length:=⟨_,rfl⟩
         obtain ⟨OC,hOC⟩:∃ C:List Value,C=[.int .i64 rk,.slice rao dl rc2]:=⟨_,rfl⟩
         obtain ⟨IB,hIB⟩:∃ I,I=obId (rk,rd):=⟨_,rfl⟩
         have hIBl:IB.length=32:=by rw[hIB];exact zbx _
         obtain ⟨KB,hKB⟩:∃ k,k=IB.map bv:=⟨_,rfl⟩
         have hnx:(l.take (i+1)).map obId=(l.take i).map obId++[IB]:=by rw[List.take_succ_eq_append_getElem hil,List.map_append,hlo,hIB];rfl
         have HROW:Hid (∀ V,wr.grownBy V none→V.rangeAt ob (oo+i*2) OC):=fun V g=>by
          have:=zac hrow0 (tn (tn (uh HG2) (tn G24 (uh HGR))) g) (by simp)
          rw[hOC,hdl2];exact this
         have HBTS:Hid (∀ V,wr.grownBy V none→Bts V rao rc2 rd):=fun V g=>hbt0.kept (tn (tn (uh HG2) (tn G24 (uh HGR))) g) (fun _ e=>by cases e)
         have HCID:Hid (∀ V,wr.grownBy V none→Calls Tryz.prog 17 #[.agg OC.toArray] V fun e w'=>e = .returned (.agg KB.toArray)∧V.grownBy w' none):=fun V g=>by
          have:=zil V rk rao rc2 rd (uh HBTS V g) (by omega) ((uh HT).kept0 (tn (uh HG5) g))
          rw[← hdl2] at this
          rw[hOC,hKB,hIB]
          exact this
         have HCFI:Hid (∀ V,wr.grownBy V none→Calls Tryz.prog 18 #[.slice a2 bl c2,.agg KB.toArray] V fun e w'=>zmo V w' b' IB e):=fun V g=>by
          have:=zhj V a2 c2 b' ((uh HBK).kept (tn (uh HGR) g) (fun _ e=>by cases e)) (by have:=(uh HBL).2;omega) ((uh HT).kept0 (tn (uh HG5) g)) IB hIBl
          rw[← (uh HBL).1,← hKB] at this
          exact this
         have hKl:KB.length=32:=by rw[hKB,List.length_map,hIBl]
         have HIO:Hid ((Tryz.prog.info? 42).map (·.size)=some OC.length):=by rw[hOC];exact zbs
         have HIX:Hid ((Tryz.prog.info? 47).map (·.size)=some KX.length):=by rw[uh HKL];exact zav
         have HEQ:Hid (∀ W:World,(binOp .eql 47 (.agg KB.toArray) (.agg KX.toArray)).run Tryz.prog W = .ok (.bool (IB == x)) W):=fun W=>by
          rw[hKB,uh HKX];exact zp5 W IB x hIBl (uh HX)
         have HID:=hide (And.intro hIB hmem)
         obtain ⟨HNX,HOC,HDL⟩:=zh3 hnx hOC hdl2
         have hro:=uh HROW wr (zaa _ _)
         have cid:=uh HCID wr (zaa _ _)
         clear hrow0 hbt0 hr hlo hmem hok hdl hdl2 hOC hIB hIBl hKB hnx hKl hil hiL
         go_wp2_with (first
          | (refine wpList_load_mid rfl 42 _ rfl ob (oo+i*2) rfl OC _ hro Tryz.underlying42 rfl (uh HIO) ?_;clear hro)
          | (go_at_call 17;refine cid.mono ?_;rintro e w5 ⟨rfl,g5⟩;clear cid;have cfi:=uh HCFI w5 g5;have HG5w:=hide g5;clear g5))
         refine cfi.mono ?_
         rintro e w6 h6
         clear cfi HCFI
         obtain ⟨v6,rfl,⟨va,vc,rfl,hbv,_⟩,g6⟩:=zjf h6 (uh HPK) (uh HID).2 (uh HID).1.symm
         clear h6
         simp only at hbv
         rw[← uh HDL]
         obtain ⟨O2,hO2⟩:∃ C:List Value,C=[.int .i64 rk,.slice va dl vc]:=⟨_,rfl⟩
         obtain ⟨W7,hW7,hBZ,hB7,g7⟩:=zf4 w6 O2
         have hIO2:(Tryz.prog.info? 42).map (·.size)=some O2.toArray.size:=by rw[hO2];exact zbs
         have hIO3:(Tryz.prog.info? 42).map (·.size)=some O2.length:=by rw[hO2];exact zbs
         have hOO:O2.toArray.all (·.oneCell')=true:=by rw[hO2];simp[Value.oneCell']
         have hZS:([Value.int .i64 0,.slice none 0 0]:List Value).toArray.size=O2.toArray.size:=by rw[hO2];rfl
         have HAG:=hide (show Value.agg #[.int .i64 rk,.slice va dl vc] = .agg O2.toArray by rw[hO2])
         have g57:=tn (tn (uh HG5w) g6) g7
         have HCS:Hid (∀ V,W7.grownBy V none→Calls Tryz.prog 19 #[.agg O2.toArray,.agg OC.toArray] V fun e w'=>e = .returned (.bool true)∧V.grownBy w' none):=fun V g=>by
          have:=zen V rk rk va rao vc rc2 rd rd (hbv.kept (tn g7 g) (fun _ e=>by cases e)) (uh HBTS V (tn g57 g))
          rw[← uh HDL] at this
          rw[hO2,uh HOC]
          refine this.mono ?_
          rintro e w' ⟨h1,h2⟩
          exact ⟨by rw[h1];simp,h2⟩
         have HR2:=hide (zal hB7)
         obtain ⟨HW7,HBZ,HIO2,HIO3,HOO,HZS⟩:=zh6 hW7 hBZ hIO2 hIO3 hOO hZS
         have HG7:=hide g57
         clear hbv hO2 hW7 hBZ hB7 g7 g6 g57 hIO2 hIO3 hOO hZS
         rw[uh HAG]
         go_upto_region 20 with (refine wpList_store_row rfl 42 _ _ rfl w6.heap.size O2.toArray rfl rfl _ _ (uh HBZ) (uh HIO2) (uh HZS) (uh HOO) ?_;rw[← uh HW7])
         have h0:W7.grownBy W7.drew none:=zaq (zaa _ _)
         refine wp_region_noPanic ?_
         refine wp_region_held_drew (S:=fun V=>W7.grownBy V none) (by kernel_rfl) h0 (fun _ => ?_)
         refine tq 0 109 (.move (.tmp 18)) ((.int .i64 (0:Int))) h0 ?_
         refine tq 1 110 (.binOp .neq 25 (.tmp 109) (.const (.int .i64 0)) 25) ((.bool false)) h0 ?_
         refine tq 2 111 (.move (.tmp 110)) ((.bool false)) h0 ?_
         refine tz 3 112 (.load 42 (.tmp 17)) (.agg O2.toArray) h0 ?_ (y:=(yieldsIf_load_mid (by rfl) _ _ rfl _ _ rfl O2 _ (fun V hV=>zac (uh HR2) hV (by simp)) Tryz.underlying42 rfl (uh HIO3)))
         (try simp only[pq])
         refine tq 4 113 (.move (.tmp 0)) ((.slice (some ⟨ob,oo,none⟩) n c)) h0 ?_
         refine tq 5 114 (.move (.tmp 16)) ((.int .i64 (i:Int))) h0 ?_
         refine tq 6 115 (.indexAddr 22 (.tmp 113) (.tmp 114)) ((.pointer (some ⟨ob,oo+i*2,none⟩))) h0 ?_
         refine tz 7 116 (.load 42 (.tmp 115)) (.agg OC.toArray) h0 ?_ (y:=(yieldsIf_load_mid (by rfl) _ _ rfl _ _ rfl OC _ (fun V hV=>zac (uh HROW W7 (uh HG7)) hV (by simp)) Tryz.underlying42 rfl (uh HIO)))
         (try simp only[pq])
         refine rdq 8 (some 117) (.call { callee := .value (.func 19),args := #[(.tmp 112),(.tmp 116)],argTypes := #[42,42] }) (fun K9 hK9 => ?_)
         go_simp
         go_at_call 19
         refine (uh HCS _ h0).mono ?_
         rintro e w8 ⟨rfl,g8⟩
         have h8:=tn h0 g8
         go_wp2_with fail
         refine hK9.out _ _ h8 (fun _ => ?_)
         clear hK9 K9
         refine tq 9 118 (.unOp .not 4 (.tmp 117)) ((.bool false)) h8 ?_
         refine tq 10 119 (.pick (.tmp 111) (.const (.bool true)) (.tmp 118)) ((.bool false)) h8 ?_
         (try simp only[pq])
         refine wpAnyH_done (by kernel_rfl) ?_ _
         refine NoPanic.normal ?_
         have HG8:=hide (tn (uh HG7) h8)
         clear h0 h8
         cases kb with
         | true =>
          have hkn:x∈(l.take i).map obId:=by have:=(uh HKB2).symm;simpa using this
          have hd2:decide (x∈(l.take (i+1)).map obId)=true:=by rw[uh HNX];simp only[List.mem_append];simpa using Or.inl hkn
          have HD2:=hide hd2
          clear hd2 hkn
          go_upto_region 22 with fail
          have h0:w8.grownBy w8.drew none:=zaq (zaa _ _)
          refine wp_region_noPanic ?_
          refine wp_region_held_drew (S:=fun V=>w8.grownBy V none) (by kernel_rfl) h0 (fun _ => ?_)
          refine tq 0 120 (.move (.tmp 15)) ((.bool true)) h0 ?_
          refine tq 1 121 (.move (.tmp 120)) ((.bool true)) h0 ?_
          refine tz 2 122 (.move (.tmp 0)) undef h0 ?_ (y:=(Or.inr ⟨by rfl,rfl⟩))
          refine tz 3 123 (.move (.tmp 16)) undef h0 ?_ (y:=(Or.inr ⟨by rfl,rfl⟩))
          (try simp only[pq])
          refine tz 4 124 (.indexAddr 22 (.tmp 122) (.tmp 123)) undef h0 ?_ (y:=(Or.inr ⟨by rfl,rfl⟩))
          refine tz 5 125 (.load 42 (.tmp 124)) undef h0 ?_ (y:=(Or.inr ⟨by rfl,rfl⟩))
          refine tz 6 126 (.call { callee := .value (.func 17),args := #[(.tmp 125)],argTypes := #[42] }) undef h0 ?_ (y:=(Or.inr ⟨by rfl,rfl⟩))
          refine tz 7 127 (.load 47 (.tmp 5)) undef h0 ?_ (y:=(Or.inr ⟨by rfl,rfl⟩))
          (try simp only[pq])
          refine tz 8 128 (.binOp .eql 47 (.tmp 126) (.tmp 127) 47) undef h0 ?_ (y:=(Or.inr ⟨by rfl,rfl⟩))
          refine tq 9 129 (.pick (.tmp 121) (.const (.bool true)) (.tmp 128)) ((.bool true)) h0 ?_
          refine tq 10 15 (.assign (.tmp 129)) ((.bool true)) h0 ?_
          (try simp only[pq])
          refine wpAnyH_done (by kernel_rfl) ?_ _
          refine NoPanic.normal ?_
          go_wp2_with fail
          go_roundw
          case rel=>exact ⟨i+1,true,by go_num,by omega,rfl,⟨by rw[uh HD2],tn (uh HGR) (tn (uh HG8) h0)⟩⟩
          case measure=>simp[intOf];omega
         | false =>
          have hkn:¬ x∈(l.take i).map obId:=by have:=(uh HKB2).symm;simpa using this
          have hxr:=zac (zal ((uh HB1).kept (uh HG2) (by simp))) (tn G24 (tn (uh HGR) (uh HG8))) (by simp)
          have HXR:=hide hxr
          by_cases hix:IB=x
          ·have hd2:decide (x∈(l.take (i+1)).map obId)=true:=by rw[uh HNX,hix];simp
           have heq:∀ W:World,(binOp .eql 47 (.agg KB.toArray) (.agg KX.toArray)).run Tryz.prog W = .ok (.bool true) W:=fun W=>by rw[uh HEQ W,hix];simp
           obtain ⟨HD2,HQ⟩:=zh2 hd2 heq
           clear hd2 hkn hxr heq hix HEQ
           go_upto_region 22 with fail
           have h0:w8.grownBy w8.drew none:=zaq (zaa _ _)
           refine wp_region_noPanic ?_
           refine wp_region_held_drew (S:=fun V=>w8.grownBy V none) (by kernel_rfl) h0 (fun _ => ?_)
           refine tq 0 120 (.move (.tmp 15)) ((.bool false)) h0 ?_
           refine tq 1 121 (.move (.tmp 120)) ((.bool false)) h0 ?_
           refine tq 2 122 (.move (.tmp 0)) ((.slice (some ⟨ob,oo,none⟩) n c)) h0 ?_
           refine tq 3 123 (.move (.tmp 16)) ((.int .i64 (i:Int))) h0 ?_
           (try simp only[pq])
           refine tq 4 124 (.indexAddr 22 (.tmp 122) (.tmp 123)) ((.pointer (some ⟨ob,oo+i*2,none⟩))) h0 ?_
           refine tz 5 125 (.load 42 (.tmp 124)) (.agg OC.toArray) h0 ?_ (y:=(yieldsIf_load_mid (by rfl) _ _ rfl _ _ rfl OC _ (fun V hV=>zac (uh HROW w8 (uh HG8)) hV (by simp)) Tryz.underlying42 rfl (uh HIO)))
           refine tz 7 127 (.load 47 (.tmp 5)) (.agg KX.toArray) h0 ?_ (y:=(yieldsIf_load_mid (by rfl) _ _ rfl _ _ rfl KX _ (fun V hV=>zac (uh HXR) hV (by simp)) Tryz.underlying47 rfl (uh HIX)))
           (try simp only[pq])
           refine rdq 6 (some 126) (.call { callee := .value (.func 17),args := #[(.tmp 125)],argTypes := #[42] }) (fun K9 hK9 => ?_)
           go_simp
           go_at_call 17
           refine (uh HCID _ (tn (uh HG8) h0)).mono ?_
           rintro e w9 ⟨rfl,g9⟩
           have h9:=tn h0 g9
           go_wp2_with fail
           refine hK9.out _ _ h9 (fun _ => ?_)
           clear hK9 K9
           refine tz 8 128 (.binOp .eql 47 (.tmp 126) (.tmp 127) 47) (.bool true) h9 ?_ (y:=(zb7 (by rfl) 47 47 _ _ rfl _ _ true rfl rfl zhk (uh HQ)))
           refine tq 9 129 (.pick (.tmp 121) (.const (.bool true)) (.tmp 128)) ((.bool true)) h9 ?_
           refine tq 10 15 (.assign (.tmp 129)) ((.bool true)) h9 ?_
           (try simp only[pq])
           refine wpAnyH_done (by kernel_rfl) ?_ _
           refine NoPanic.normal ?_
           go_wp2_with fail
           go_roundw
           case rel=>exact ⟨i+1,true,by go_num,by omega,rfl,⟨by rw[uh HD2],tn (uh HGR) (tn (uh HG8) h9)⟩⟩
           case measure=>simp[intOf];omega
          ·have hd2:decide (x∈(l.take (i+1)).map obId)=false:=by
            rw[uh HNX]
            simp only[List.mem_append,List.mem_singleton,decide_eq_false_iff_not]
            rintro (h | h)
            ·exact hkn h
            ·exact hix h.symm
           have heq:∀ W:World,(binOp .eql 47 (.agg KB.toArray) (.agg KX.toArray)).run Tryz.prog W = .ok (.bool false) W:=fun W=>by rw[uh HEQ W];simp[hix]
           obtain ⟨HD2,HQ⟩:=zh2 hd2 heq
           clear hd2 hkn hxr heq hix HEQ
           go_upto_region 22 with fail
           have h0:w8.grownBy w8.drew none:=zaq (zaa _ _)
           refine wp_region_noPanic ?_
           refine wp_region_held_drew (S:=fun V=>w8.grownBy V none) (by kernel_rfl) h0 (fun _ => ?_)
           refine tq 0 120 (.move (.tmp 15)) ((.bool false)) h0 ?_
           refine tq 1 121 (.move (.tmp 120)) ((.bool false)) h0 ?_
           refine tq 2 122 (.move (.tmp 0)) ((.slice (some ⟨ob,oo,none⟩) n c)) h0 ?_
           refine tq 3 123 (.move (.tmp 16)) ((.int .i64 (i:Int))) h0 ?_
           (try simp only[pq])
           refine tq 4 124 (.indexAddr 22 (.tmp 122) (.tmp 123)) ((.pointer (some ⟨ob,oo+i*2,none⟩))) h0 ?_
           refine tz 5 125 (.load 42 (.tmp 124)) (.agg OC.toArray) h0 ?_ (y:=(yieldsIf_load_mid (by rfl) _ _ rfl _ _ rfl OC _ (fun V hV=>zac (uh HROW w8 (uh HG8)) hV (by simp)) Tryz.underlying42 rfl (uh HIO)))
           refine tz 7 127 (.load 47 (.tmp 5)) (.agg KX.toArray) h0 ?_ (y:=(yieldsIf_load_mid (by rfl) _ _ rfl _ _ rfl KX _ (fun V hV=>zac (uh HXR) hV (by simp)) Tryz.underlying47 rfl (uh HIX)))
           (try simp only[pq])
           refine rdq 6 (some 126) (.call { callee := .value (.func 17),args := #[(.tmp 125)],argTypes := #[42] }) (fun K9 hK9 => ?_)
           go_simp
           go_at_call 17
           refine (uh HCID _ (tn (uh HG8) h0)).mono ?_
           rintro e w9 ⟨rfl,g9⟩
           have h9:=tn h0 g9
           go_wp2_with fail
           refine hK9.out _ _ h9 (fun _ => ?_)
           clear hK9 K9
           refine tz 8 128 (.binOp .eql 47 (.tmp 126) (.tmp 127) 47) (.bool false) h9 ?_ (y:=(zb7 (by rfl) 47 47 _ _ rfl _ _ false rfl rfl zhk (uh HQ)))
           refine tq 9 129 (.pick (.tmp 121) (.const (.bool true)) (.tmp 128)) ((.bool false)) h9 ?_
           refine tq 10 15 (.assign (.tmp 129)) ((.bool false)) h9 ?_
           (try simp only[pq])
           refine wpAnyH_done (by kernel_rfl) ?_ _
           refine NoPanic.normal ?_
           go_wp2_with fail
           go_roundw
           case rel=>exact ⟨i+1,false,by go_num,by omega,rfl,⟨by rw[uh HD2],tn (uh HGR) (tn (uh HG8) h9)⟩⟩
           case measure=>simp[intOf];omega
        ·have hiz:¬ (i:Int)<(n:Int):=by omega
         have hall:l.take i=l:=List.take_of_length_le (by rw[(uh HLL).2];omega)
         have hkb:=uh HKB2
         rw[hall] at hkb
         have HKB3:=hide hkb
         have hxr:=zac (zal ((uh HB1).kept (uh HG2) (by simp))) (tn G24 (uh HGR)) (by simp)
         have hiX:(Tryz.prog.info? 47).map (·.size)=some KX.length:=by rw[uh HKL];exact zav
         have hbr:=(uh HBK).kept (uh HGR) (fun _ e=>by cases e)
         have cfi:=zhj wr a2 c2 b' hbr (by have:=(uh HBL).2;omega) ((uh HT).kept0 (uh HG5)) x (uh HX)
         rw[← (uh HBL).1,← uh HKX] at cfi
         have HBR:=hide hbr
         clear hall hkb hbr HKB2 hi hin
         go_wp2_with (refine wpList_load_mid rfl 47 _ rfl w.heap.size 0 rfl KX _ hxr Tryz.underlying47 rfl hiX ?_;clear hxr)
         refine cfi.mono ?_
         rintro e w6 h6
         clear cfi
         obtain ⟨k6,a6,n6,c6,y6,rfl,hy6,g6⟩:=zoh h6 (uh HPK)
         clear h6
         obtain ⟨O2,hO2⟩:∃ C:List Value,C=[.int .i64 k6,.slice a6 n6 c6]:=⟨_,rfl⟩
         obtain ⟨W7,hW7,hBZ,hB7,g7⟩:=zf4 w6 O2
         have hIO2:(Tryz.prog.info? 42).map (·.size)=some O2.toArray.size:=by rw[hO2];exact zbs
         have hOO:O2.toArray.all (·.oneCell')=true:=by rw[hO2];simp[Value.oneCell']
         have hZS:([Value.int .i64 0,.slice none 0 0]:List Value).toArray.size=O2.toArray.size:=by rw[hO2];rfl
         have HAG:=hide (show Value.agg #[.int .i64 k6,.slice a6 n6 c6] = .agg O2.toArray by rw[hO2])
         have g67:=tn g6 g7
         obtain ⟨W8,hW8,hO8,g8⟩:=zp4 W7 5 1 W7.heap.size (Nat.le_refl _)
         have hbs0:(Instr.buildSlice 24 0 #[]).run Tryz.prog W7 = .ok (.slice (some ⟨W7.heap.size,0,none⟩) 0 0) W8:=by rw[hW8];exact zqu W7
         have hb8:=(uh HBR).kept (tn g67 g8) (fun _ e=>by cases e)
         obtain ⟨HW8,HO8,HB8,HY6,HW7,HBZ⟩:=zh6 hW8 hO8 hb8 hy6 hW7 hBZ
         obtain ⟨HIO2,HOO,HZS⟩:=zh3 hIO2 hOO hZS
         have HG8:=hide (tn (tn (uh HG5) g67) g8)
         have hbase:W7.heap.size≤W8.heap.size:=g8.size
         have hw17:w1.heap.size≤W7.heap.size:=(tn (uh HG5) g67).size
         have hbl9:0+bl≤140737488355328:=by have:=(uh HBL).1;have:=(uh HBL).2;omega
         have hb9l:bl=b'.length:=(uh HBL).1
         have HBLN:=hide hb9l
         clear hO2 hW7 hBZ hB7 g7 g6 g67 hIO2 hOO hZS hW8 hO8 g8 hbs0 hb8 hy6 hiX
         clear hb9l
         rw[uh HAG]
         go_upto_region 24 with (refine wpList_store_row rfl 42 _ _ rfl w6.heap.size O2.toArray rfl rfl _ _ (uh HBZ) (uh HIO2) (uh HZS) (uh HOO) ?_;rw[← uh HW7])
         have hmor:∀ t,¬ PackOf (b'++[0]) t:=fun t ht=>zmh (uh HPK) ht
         have HMOR:=hide hmor
         have HB17:=hide (show (b'++[0]).length≤100000 by rw[List.length_append];have:=(uh HBL).2;simp;omega)
         clear hmor
         refine zch fun O hO => ?_
         refine zcc (by rw[hO];kernel_rfl) fun K9 hK9 => ?_
         go_simp
         rw[← uh HW8]
         refine hK9 _ _ ?_
         clear hK9 K9
         (try simp only[pq])
         refine zad (by rw[hO];kernel_rfl) (.slice a2 bl c2) (fun K9 hK9=>by go_simp;exact hK9) ?_
         (try simp only[pq])
         refine za5 rfl _ _ rfl W7.heap.size (.slice (some ⟨W7.heap.size,0,none⟩) 0 0) 0 [] rfl (uh HO8) a2 c2 b' (uh HB8) (by rw[← uh HBLN];rfl) (by rw[← uh HBLN];exact hbl9) hbase ?_
         intro v9 w9 ho9 g9
         obtain ⟨a9,x9,e9⟩:=zb0 ho9
         obtain ⟨n9,hn9⟩:∃ z,z=0+b'.length:=⟨_,rfl⟩
         rw[← hn9] at ho9 e9
         subst e9
         have h10:∃ W,W=w9.alloc (.cells #[.int .u8 0] 5)∧Bts W (some ⟨w9.heap.size,0,none⟩) 1 [0]∧w9.grownBy W none:=zqo w9 0
         obtain ⟨W10,hW10,hB10,g10⟩:=h10
         have hbs1:(Instr.buildSlice 24 1 #[(0,.int .u8 0)]).run Tryz.prog w9 = .ok (.slice (some ⟨w9.heap.size,0,none⟩) 1 1) W10:=by rw[hW10];exact zqv w9 0
         have HO10:=hide (zcu ho9 g10)
         have HB10:=hide hB10
         have HG10:=hide (tn (zab (uh HG8) g9 (fun y e=>Or.inl (Nat.le_trans hw17 (World.ownsRow.lt (uh HO8) y e).1))) g10)
         have hbase10:W7.heap.size≤W10.heap.size:=Nat.le_trans hbase (Nat.le_trans g9.size g10.size)
         have hn10:n9+1≤140737488355328:=by rw[hn9];have:=(uh HBL).2;omega
         obtain ⟨HN9,HW10⟩:=zh2 hn9 hW10
         clear ho9 g9 hbs1 hW10 hB10 g10 hn9
         (try simp only[pq])
         refine zcc (by rw[hO];kernel_rfl) fun K9 hK9 => ?_
         go_simp
         rw[← uh HW10]
         refine hK9 _ _ ?_
         clear hK9 K9
         (try simp only[pq])
         refine za5 rfl _ _ rfl W7.heap.size (.slice a9 n9 x9) n9 _ rfl (uh HO10) (some ⟨w9.heap.size,0,none⟩) 1 [0] (uh HB10) rfl hn10 hbase10 ?_
         intro v11 w11 ho11 g11
         have ho12:w11.ownsRow W7.heap.size 5 1 v11 (b'++[0]).length ((b'++[0]).map bv):=by have h:=ho11;rw[uh HN9] at h;simpa using h
         obtain ⟨-,a11,x11,rfl,hb11,-⟩:=zb6 ho12
         have HG11:=hide (zab (uh HG10) g11 (fun y e=>Or.inl (Nat.le_trans hw17 (World.ownsRow.lt (uh HO10) y e).1)))
         have cr11:=zfn w11 a11 x11 _ hb11 (uh HB17) ((uh HT).kept0 (uh HG11))
         obtain ⟨bn1,hbn1⟩:∃ z,z=(b'++[0]).length:=⟨_,rfl⟩
         rw[← hbn1] at cr11 ⊢
         clear ho11 ho12 hb11 g11 hbn1
         (try simp only[pq])
         refine zcc (by rw[hO];kernel_rfl) fun K9 hK9 => ?_
         go_simp
         go_at_call 13
         refine cr11.mono ?_
         rintro e w12 h12
         clear cr11
         obtain ⟨rfl,g12⟩:e = .returned (.tuple #[.slice none 0 0,.int .i64 11])∧w11.grownBy w12 none:=by
          rcases h12 with ⟨_,_,s9,_,hp9,_⟩ | ⟨h,_,g⟩
          ·exact absurd hp9 (uh HMOR _)
          ·exact ⟨h,g⟩
         have HG12:=hide (tn (uh HG11) g12)
         clear h12 g12
         refine hK9 _ _ ?_
         clear hK9 K9
         (try simp only[pq])
         refine zad (by rw[hO];kernel_rfl) (.tuple #[.slice none 0 0,.int .i64 (11:Int)]) (fun K9 hK9=>by go_simp;exact hK9) ?_
         (try simp only[pq])
         refine zad (by rw[hO];kernel_rfl) (.slice none 0 0) (fun K9 hK9=>by go_simp;exact hK9) ?_
         (try simp only[pq])
         refine zad (by rw[hO];kernel_rfl) (.int .i64 (11:Int)) (fun K9 hK9=>by go_simp;exact hK9) ?_
         (try simp only[pq])
         refine zad (by rw[hO];kernel_rfl) (.slice none 0 0) (fun K9 hK9=>by go_simp;exact hK9) ?_
         (try simp only[pq])
         refine zad (by rw[hO];kernel_rfl) (.int .i64 (11:Int)) (fun K9 hK9=>by go_simp;exact hK9) ?_
         (try simp only[pq])
         go_upto_region 25 with fail
         have hT12:=(uh HT).kept0 (uh HG12)
         have HG0:=hide (tn (uh HG1) (uh HG12))
         by_cases hix:x∈l.map obId
         ·obtain rfl:y6=0:=by rw[uh HY6,if_pos ((uh HSN x).2 hix)]
          obtain rfl:kb=true:=by rw[uh HKB3];simpa using hix
          clear hix
          refine zch fun O hO => ?_
          refine zad (by rw[hO];kernel_rfl) (.int .i64 (0:Int)) (fun K9 hK9=>by go_simp;exact hK9) ?_
          (try simp only[pq])
          refine zad (by rw[hO];kernel_rfl) (.bool false) (fun K9 hK9=>by go_simp;exact hK9) ?_
          (try simp only[pq])
          refine zad (by rw[hO];kernel_rfl) (.bool true) (fun K9 hK9=>by go_simp;exact hK9) ?_
          (try simp only[pq])
          refine zad (by rw[hO];kernel_rfl) (.bool false) (fun K9 hK9=>by go_simp;exact hK9) ?_
          (try simp only[pq])
          refine zad (by rw[hO];kernel_rfl) (.bool true) (fun K9 hK9=>by go_simp;exact hK9) ?_
          (try simp only[pq])
          refine zad (by rw[hO];kernel_rfl) (.bool true) (fun K9 hK9=>by go_simp;exact hK9) ?_
          (try simp only[pq])
          refine zad (by rw[hO];kernel_rfl) (.int .i64 (11:Int)) (fun K9 hK9=>by go_simp;exact hK9) ?_
          (try simp only[pq])
          refine zad (by rw[hO];kernel_rfl) (.bool true) (fun K9 hK9=>by go_simp;exact hK9) ?_
          (try simp only[pq])
          refine zad (by rw[hO];kernel_rfl) (.bool true) (fun K9 hK9=>by go_simp;exact hK9) ?_
          (try simp only[pq])
          refine zad (by rw[hO];kernel_rfl) (.bool true) (fun K9 hK9=>by go_simp;exact hK9) ?_
          (try simp only[pq])
          refine zcc (by rw[hO];kernel_rfl) fun K9 hK9 => ?_
          go_simp
          go_at_call 12
          refine (zfo _ hT12).mono ?_
          rintro e w13 ⟨rfl,g13⟩
          refine hK9 _ _ ?_
          clear hK9 K9
          (try simp only[pq])
          refine zad (by rw[hO];kernel_rfl) (.bool true) (fun K9 hK9=>by go_simp;exact hK9) ?_
          (try simp only[pq])
          refine zad (by rw[hO];kernel_rfl) (.bool true) (fun K9 hK9=>by go_simp;exact hK9) ?_
          (try simp only[pq])
          go_wp2_with fail
          go_ret
          exact ⟨rfl,tn (uh HG0) g13⟩
         ·obtain rfl:y6=13:=by rw[uh HY6,if_neg (fun h=>hix ((uh HSN x).1 h))]
          obtain rfl:kb=false:=by rw[uh HKB3];simpa using hix
          clear hix
          refine zch fun O hO => ?_
          refine zad (by rw[hO];kernel_rfl) (.int .i64 (13:Int)) (fun K9 hK9=>by go_simp;exact hK9) ?_
          (try simp only[pq])
          refine zad (by rw[hO];kernel_rfl) (.bool true) (fun K9 hK9=>by go_simp;exact hK9) ?_
          (try simp only[pq])
          refine zad (by rw[hO];kernel_rfl) (.bool false) (fun K9 hK9=>by go_simp;exact hK9) ?_
          (try simp only[pq])
          refine zad (by rw[hO];kernel_rfl) (.bool true) (fun K9 hK9=>by go_simp;exact hK9) ?_
          (try simp only[pq])
          refine zad (by rw[hO];kernel_rfl) (.bool true) (fun K9 hK9=>by go_simp;exact hK9) ?_
          (try simp only[pq])
          refine zad (by rw[hO];kernel_rfl) (.bool true) (fun K9 hK9=>by go_simp;exact hK9) ?_
          (try simp only[pq])
          refine zad (by rw[hO];kernel_rfl) (.int .i64 (11:Int)) (fun K9 hK9=>by go_simp;exact hK9) ?_
          (try simp only[pq])
          refine zad (by rw[hO];kernel_rfl) (.bool true) (fun K9 hK9=>by go_simp;exact hK9) ?_
          (try simp only[pq])
          refine zad (by rw[hO];kernel_rfl) (.bool true) (fun K9 hK9=>by go_simp;exact hK9) ?_
          (try simp only[pq])
          refine zad (by rw[hO];kernel_rfl) (.bool true) (fun K9 hK9=>by go_simp;exact hK9) ?_
          (try simp only[pq])
          refine zcc (by rw[hO];kernel_rfl) fun K9 hK9 => ?_
          go_simp
          go_at_call 12
          refine (zfo _ hT12).mono ?_
          rintro e w13 ⟨rfl,g13⟩
          refine hK9 _ _ ?_
          clear hK9 K9
          (try simp only[pq])
          refine zad (by rw[hO];kernel_rfl) (.bool true) (fun K9 hK9=>by go_simp;exact hK9) ?_
          (try simp only[pq])
          refine zad (by rw[hO];kernel_rfl) (.bool true) (fun K9 hK9=>by go_simp;exact hK9) ?_
          (try simp only[pq])
          go_wp2_with fail
          go_ret
          exact ⟨rfl,tn (uh HG0) g13⟩
      ·exact absurd (uh HPK) (hno _)
   ·have hyz:(y == 0)=false:=by simpa using hy
    obtain rfl:b=[]:=hp.2.1 hy
    have hT2:=(uh HT).kept0 g2
    have HG2:=hide g2
    clear hp hb2 g2
    simp only[List.length_nil]
    go_wp2_with (go_at_call 12;refine (zfo _ hT2).mono ?_;rintro e w9 ⟨rfl,g9⟩)
    go_ret
    exact ⟨rfl,tn (tn (uh HG1) (uh HG2)) g9⟩
 ·have hsd:decide (za8 (L.map (·.o))≤60000)=false:=by simpa using hs
  rw[hsd] at cs
  clear hm hO hO1 hT hs hsd hn hKl hKX hB1 hW1
  go_enter Tryz.func5,Tryz.ntmps5
  go_wp2_with (rw[← uh HW1])
  refine cs.mono ?_
  rintro e w1 ⟨rfl,hw1⟩
  subst hw1
  go_wp2_with fail
  go_ret
  exact ⟨rfl,g1⟩
end Go.Proofs.YtegbbkgmiklhcaaGreatDoor
