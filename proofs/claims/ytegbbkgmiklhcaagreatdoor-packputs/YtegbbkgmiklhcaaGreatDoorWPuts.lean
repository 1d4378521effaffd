/- Lemmas. -/
import Derived.Test.YtegbbkgmiklhcaaGreatDoorPkF
import Derived.Lib.SlBytesConst
import Derived.Test.YtegbbkgmiklhcaaGreatDoorRPkPut
import Derived.Deep.DeepCutAuto
namespace Go.Proofs.YtegbbkgmiklhcaaGreatDoor
open Go.RowKit
set_option maxRecDepth 100000
theorem zqb:PackOf [67,80,75,49,0,1,1,0,0,0,1,97] [((1:Int),[97])]:=by
 refine ⟨by decide,fun o ho => ?_,List.pairwise_singleton _ _,by decide⟩
 rw[List.mem_singleton.1 ho]
 show zao 1 [97]=0
 decide
theorem zu7 {b:List UInt8} {y:Int} (h:PutP [((1:Int),[97])] b y):b=[67,80,75,49,0,1,1,0,0,0,1,97]∧y=0:=h.one (PutP.of zqb)
set_option maxHeartbeats 4000000 in
theorem zjv (w:World) (hT:Tabs w):Calls Tryz.prog 12 #[] w fun e w'=>e = .returned (.bool true)∧w.grownBy w' none:=by
 have hW1:∃ W1,W1=w.alloc (.cells #[.int .u8 97] 5 (1,2))∧Bts W1 (some ⟨w.heap.size,0,none⟩) 1 [97]∧w.grownBy W1 none:=by
  refine ⟨_,rfl,⟨(fun e=>by cases e),by decide,by decide,(fun ad e _=>by cases e;rfl),(fun ad e i hi => ?_)⟩,zad (zaa _ _) _⟩
  cases e
  have hh:=heap_alloc_new w (.cells #[.int .u8 97] 5 (1,2))
  match i,hi with
  | 0,_=>unfold World.cell?;rw[hh];rfl
 have kc:=fun (w:World) (C:Array Value) (n c:Nat)=>Lib.run_convert_bytes_const (P:=Tryz.prog) w 24 5 C n c Tryz.underlying24 Tryz.underlying5
 obtain ⟨W1,hW1,hb1,g1⟩:=hW1
 obtain ⟨W2,hW2,hB2,g2⟩:=zag W1 42 [.int .i64 1,.slice (some ⟨w.heap.size,0,none⟩) 1 1]
 have hbs:(Instr.buildSlice 22 1 #[(0,.agg #[.int .i64 1,.slice (some ⟨w.heap.size,0,none⟩) 1 1])]).run Tryz.prog W1 = .ok (.slice (some ⟨W1.heap.size,0,none⟩) 1 1) W2:=by rw[hW2];exact zsq _ _ _ _ W1
 have hO:Obsl W2 (some ⟨W1.heap.size,0,none⟩) 1 [⟨1,[97],some ⟨w.heap.size,0,none⟩,1⟩]:=by
  refine ⟨(fun e=>by cases e),by simp,by decide,(fun ad e _=>by cases e;rfl),(fun ad e i hi => ?_),fun r hr => ?_⟩
  ·cases e
   have hi0:i=0:=by simp at hi;omega
   subst hi0
   exact zau hB2
  ·rw[List.mem_singleton.1 hr]
   exact hb1.kept g2 (fun _ e=>by cases e)
 have G2:=tn g1 g2
 have cp:=zl6 W2 _ 1 _ hO (by simp) (hT.kept0 G2)
 obtain ⟨HW1,HBS,HG2,HT⟩:=zh4 hW1 hbs G2 hT
 have kc1:=kc w #[.int .u8 97] 1 1
 have hs1:W1.heap.size=w.heap.size+1:=by rw[hW1];simp
 rw[hs1] at cp
 clear hW1 hb1 g1 kc hbs hO G2 hB2 hW2 g2 hT
 go_enter Tryz.func12,Tryz.ntmps12
 go_wp2_with (first
  | (rw[← uh HW1])
  | (refine zax rfl 22 _ rfl (.agg #[.int .i64 1,.slice (some ⟨w.heap.size,0,none⟩) 1 1]) _ rfl (uh HBS) ?_;(try simp only[pq])))
 refine cp.mono ?_
 rintro e w3 ⟨v3,b3,y3,rfl,hp,⟨a3,c3,rfl,hb3,_⟩,g3⟩
 clear cp HBS
 obtain ⟨rfl,rfl⟩:=zu7 (b:=b3) (y:=y3) hp
 have G3:=tn (uh HG2) g3
 have cr:=zp4 w3 a3 c3 _ hb3 (by simp) ((uh HT).kept0 G3)
 clear hp hs1 kc1
 go_wp2_with fail
 refine cr.mono ?_
 rintro e w4 hr4
 clear cr
 rcases hr4 with ⟨v4,R,s,rfl,hP,hRs,hO4,g4⟩ | ⟨rfl,hno,g4⟩
 ·obtain rfl:s=[((1:Int),[97])]:=hP.one zqb
  obtain ⟨r,rfl⟩:∃ r,R=[r]:=List.length_eq_one_iff.1 (by have:=congrArg List.length hRs;simpa using this)
  have hro:r.o=((1:Int),[97]):=by simpa using hRs
  have hrd:r.d=[97]:=congrArg Prod.snd hro
  have hrk:r.k=1:=congrArg Prod.fst hro
  obtain ⟨a4,c4,rfl,hS⟩:=hO4.sl
  obtain ⟨bb,oo,rfl,hrow,hbt⟩:=hS.at 0 (by simp)
  simp only[List.getElem_cons_zero] at hrow hbt
  have cv3:=zas (hb3.kept g4 (fun _ e=>by cases e))
  have cv4:=zas hbt
  rw[hrd] at cv4
  have hc1:=hrow 1 _ rfl
  rw[hrd] at hc1
  rw[show str [67,80,75,49,0,1,1,0,0,0,1,97]=⟨#[67,80,75,49,0,1,1,0,0,0,1,97]⟩ from rfl] at cv3
  rw[show str [97]=⟨#[97]⟩ from rfl] at cv4
  simp only[List.length_cons,List.length_nil,Nat.zero_add,Nat.reduceAdd,Nat.zero_mul,Nat.add_zero] at cv3 cv4 hc1
  have HG:=hide (tn G3 g4)
  clear hP hRs hO4 hS hbt hrow hb3 g4 g3 hro
  go_wp2_with fail
  go_ret
  exact ⟨rfl,uh HG⟩
 ·exact absurd zqb (hno _)
theorem zu8 (L:List ObP):(L.map obE).map eOb=L.map (·.o):=by
 rw[List.map_map]
 exact List.map_congr_left fun _ _=>rfl
theorem zjw {s l:List Ob} (h:s.Perm l):lenO s=lenO l:=by
 unfold lenO
 rw[(h.map _).sum_nat]
theorem zsb {s:List Ob} (h:∀ o∈s,OkO o):lenO s≤6+s.length*16389:=by
 unfold lenO
 have:∀ t:List Ob,(∀ o∈t,OkO o)→(t.map fun o=>5+o.2.length).sum≤t.length*16389:=by
  intro t
  induction t with
  | nil=>intro _;simp
  | cons o t ih =>
   intro h
   obtain ⟨k,_,_,_,h1⟩:=zfw (h o (by simp))
   have h2:=ih fun q hq=>h q (by simp[hq])
   simp only[List.map_cons,List.sum_cons,List.length_cons]
   omega
 have:=this s h
 omega
set_option maxHeartbeats 8000000 in
theorem zqc (w:World) (ao:Option Addr) (c:Nat) (L:List ObP) (hO:Obsl w ao c L) (hT:Tabs w) :
  Calls Tryz.prog 3 #[.slice ao L.length c] w fun e w'=>e = .returned (.bool true)∧w.grownBy w' none:=by
 have hm:L.length≤9223372036854775807:=by have h1:=hO.fits;have h2:=hO.most;unfold maxLen at h2;omega
 have cs:=zpv w ao c L hO hm
 obtain ⟨n,hn⟩:∃ n,n=L.length:=⟨_,rfl⟩
 rw[← hn] at cs ⊢
 by_cases hs:zcd (L.map (·.o))≤60000
 ·have hsd:decide (zcd (L.map (·.o))≤60000)=true:=by simpa using hs
  rw[hsd] at cs
  have hfew:=zpu hs
  rw[List.length_map,← hn] at hfew
  by_cases h300:300<n
  ·have hz:(300:Int)<(n:Int):=by omega
   clear hm hO hT hs hsd hn
   go_enter Tryz.func3,Tryz.ntmps3
   go_wp2_with fail
   refine cs.mono ?_
   rintro e w1 ⟨rfl,hw1⟩
   subst hw1
   go_wp2_with fail
   go_ret
   exact ⟨rfl,zaa _ _⟩
  ·have hz:¬ (300:Int)<(n:Int):=by omega
   have cp:=zl6 w ao c L hO (by omega) hT
   have co:∀ V,w.grownBy V none→_:=fun V g=>zru V ao c L (hO.kept g) (by omega)
   have cl:∀ V,w.grownBy V none→lenO (L.map (·.o))≤6+300*16389→_:=fun V g h=>zhp V ao c L (hO.kept g) (by omega) (by omega)
   have hLm:(L.map (·.o)).length=n:=by rw[List.length_map,hn]
   have hLe:(L.map obE).length≤100000:=by rw[List.length_map,← hn];omega
   rw[← hn] at cp
   simp only[← hn] at co cl
   obtain ⟨HCO,HCL,HT,HLM,HLE⟩:=zh5 co cl hT hLm hLe
   clear hm hO hT hs hsd hn co cl hLm hLe
   go_enter Tryz.func3,Tryz.ntmps3
   go_wp2_with fail
   refine cs.mono ?_
   rintro e w1 ⟨rfl,hw1⟩
   subst hw1
   clear cs
   go_wp2_with fail
   refine cp.mono ?_
   rintro e w2 ⟨v2,b,y,rfl,hp,⟨a2,c2,rfl,hb2,_⟩,g2⟩
   clear cp
   have co2:=uh HCO w2 g2
   obtain ⟨HP,HB2,HG2⟩:=zh3 hp hb2 g2
   clear HCO hp hb2 g2
   go_wp2_with fail
   refine co2.mono ?_
   rintro e w3 ⟨v3,rfl,hR3,g3⟩
   clear co2
   have cr:=zny w3 _ v3 _ hR3 (uh HLE)
   have HG3:=hide (tn (uh HG2) g3)
   have HB3:=hide ((uh HB2).kept g3 (fun _ e=>by cases e))
   clear g3 hR3
   go_wp2_with fail
   refine cr.mono ?_
   rintro e w4 ⟨b',y',rfl,hp',g4⟩
   clear cr
   rw[zu8] at hp'
   obtain ⟨rfl,rfl⟩:=(uh HP).one hp'
   have G4:=tn (uh HG3) g4
   have hb4:=(uh HB3).kept g4 (fun _ e=>by cases e)
   have cv:=zas hb4
   obtain ⟨TX,hTX⟩:∃ T,T=str b:=⟨_,rfl⟩
   rw[← hTX] at cv ⊢
   obtain ⟨bl,hbl⟩:∃ z,z=b.length:=⟨_,rfl⟩
   rw[← hbl] at cv ⊢
   have HG4:=hide G4
   clear hTX hb4 hp' g4 G4
   by_cases hy:y=0
   ·subst hy
    obtain ⟨s,p1,p2⟩:=(uh HP).2.2 rfl
    have hlen:lenO (L.map (·.o))=bl:=by
     rw[← zjw p1,hbl,p2.eq,zl1];rfl
    have hfew2:lenO (L.map (·.o))≤6+300*16389:=by
     have h1:=zsb p2.ok
     have h2:=p2.few
     have h3:=Nat.mul_le_mul_right 16389 h2
     rw[← zjw p1]
     omega
    have cl4:=uh HCL w4 (uh HG4) hfew2
    rw[hlen] at cl4
    have HT4:=hide ((uh HT).kept0 (uh HG4))
    clear hlen hfew2 p1 p2 hbl HCL
    go_upto_region 5 with fail
    refine zbx fun O hO => ?_
    refine zac (by rw[hO];kernel_rfl) (.slice a2 bl c2) (fun K9 hK9=>by go_simp;exact hK9) ?_
    (try simp only[pq])
    refine zac (by rw[hO];kernel_rfl) (.string TX) (fun K9 hK9=>by go_simp;exact hK9) ?_
    (try simp only[pq])
    refine zac (by rw[hO];kernel_rfl) (.string TX) (fun K9 hK9=>by go_simp;exact hK9) ?_
    (try simp only[pq])
    refine zac (by rw[hO];kernel_rfl) (.bool true) (fun K9 hK9=>by go_simp;exact hK9) ?_
    (try simp only[pq])
    refine zac (by rw[hO];kernel_rfl) (.bool true) (fun K9 hK9=>by go_simp;exact hK9) ?_
    (try simp only[pq])
    refine zac (by rw[hO];kernel_rfl) (.int .i64 (0:Int)) (fun K9 hK9=>by go_simp;exact hK9) ?_
    (try simp only[pq])
    refine zac (by rw[hO];kernel_rfl) (.int .i64 (0:Int)) (fun K9 hK9=>by go_simp;exact hK9) ?_
    (try simp only[pq])
    refine zac (by rw[hO];kernel_rfl) (.bool true) (fun K9 hK9=>by go_simp;exact hK9) ?_
    (try simp only[pq])
    refine zac (by rw[hO];kernel_rfl) (.bool true) (fun K9 hK9=>by go_simp;exact hK9) ?_
    (try simp only[pq])
    refine zac (by rw[hO];kernel_rfl) (.bool true) (fun K9 hK9=>by go_simp;exact hK9) ?_
    (try simp only[pq])
    refine zac (by rw[hO];kernel_rfl) (.int .i64 (0:Int)) (fun K9 hK9=>by go_simp;exact hK9) ?_
    (try simp only[pq])
    refine zac (by rw[hO];kernel_rfl) (.bool false) (fun K9 hK9=>by go_simp;exact hK9) ?_
    (try simp only[pq])
    refine zac (by rw[hO];kernel_rfl) (.bool false) (fun K9 hK9=>by go_simp;exact hK9) ?_
    (try simp only[pq])
    refine zac (by rw[hO];kernel_rfl) (.slice ao n c) (fun K9 hK9=>by go_simp;exact hK9) ?_
    (try simp only[pq])
    refine zbm (by rw[hO];kernel_rfl) fun K9 hK9 => ?_
    go_simp
    go_at_call 11
    refine (cl4).mono ?_
    rintro e w5 ⟨rfl,g5⟩
    have HG5:=hide (tn (uh HG4) g5)
    have HT5:=hide ((uh HT4).kept0 g5)
    clear g5
    refine hK9 _ _ ?_
    clear hK9 K9
    (try simp only[pq])
    refine zac (by rw[hO];kernel_rfl) (.slice a2 bl c2) (fun K9 hK9=>by go_simp;exact hK9) ?_
    (try simp only[pq])
    refine zac (by rw[hO];kernel_rfl) (.int .i64 (bl:Int)) (fun K9 hK9=>by go_simp;exact hK9) ?_
    (try simp only[pq])
    refine zac (by rw[hO];kernel_rfl) (.bool true) (fun K9 hK9=>by go_simp;exact hK9) ?_
    (try simp only[pq])
    refine zac (by rw[hO];kernel_rfl) (.bool true) (fun K9 hK9=>by go_simp;exact hK9) ?_
    (try simp only[pq])
    refine zac (by rw[hO];kernel_rfl) (.bool true) (fun K9 hK9=>by go_simp;exact hK9) ?_
    (try simp only[pq])
    refine zac (by rw[hO];kernel_rfl) (.bool true) (fun K9 hK9=>by go_simp;exact hK9) ?_
    (try simp only[pq])
    refine zbm (by rw[hO];kernel_rfl) fun K9 hK9 => ?_
    go_simp
    go_at_call 12
    refine (zjv _ (uh HT5)).mono ?_
    rintro e w9 ⟨rfl,g9⟩
    have HG9:=hide (tn (uh HG5) g9)
    refine hK9 _ _ ?_
    clear hK9 K9
    (try simp only[pq])
    refine zac (by rw[hO];kernel_rfl) (.bool true) (fun K9 hK9=>by go_simp;exact hK9) ?_
    (try simp only[pq])
    refine zac (by rw[hO];kernel_rfl) (.bool true) (fun K9 hK9=>by go_simp;exact hK9) ?_
    (try simp only[pq])
    go_wp2_with fail
    go_ret
    exact ⟨rfl,uh HG9⟩
   ·have hyz:(y == 0)=false:=by simpa using hy
    have HT4:=hide ((uh HT).kept0 (uh HG4))
    clear hbl HCL
    go_upto_region 5 with fail
    refine zbx fun O hO => ?_
    refine zac (by rw[hO];kernel_rfl) (.slice a2 bl c2) (fun K9 hK9=>by go_simp;exact hK9) ?_
    (try simp only[pq])
    refine zac (by rw[hO];kernel_rfl) (.string TX) (fun K9 hK9=>by go_simp;exact hK9) ?_
    (try simp only[pq])
    refine zac (by rw[hO];kernel_rfl) (.string TX) (fun K9 hK9=>by go_simp;exact hK9) ?_
    (try simp only[pq])
    refine zac (by rw[hO];kernel_rfl) (.bool true) (fun K9 hK9=>by go_simp;exact hK9) ?_
    (try simp only[pq])
    refine zac (by rw[hO];kernel_rfl) (.bool true) (fun K9 hK9=>by go_simp;exact hK9) ?_
    (try simp only[pq])
    refine zac (by rw[hO];kernel_rfl) (.int .i64 y) (fun K9 hK9=>by go_simp;exact hK9) ?_
    (try simp only[pq])
    refine zac (by rw[hO];kernel_rfl) (.int .i64 y) (fun K9 hK9=>by go_simp;exact hK9) ?_
    (try simp only[pq])
    refine zac (by rw[hO];kernel_rfl) (.bool true) (fun K9 hK9=>by go_simp;exact hK9) ?_
    (try simp only[pq])
    refine zac (by rw[hO];kernel_rfl) (.bool true) (fun K9 hK9=>by go_simp;exact hK9) ?_
    (try simp only[pq])
    refine zac (by rw[hO];kernel_rfl) (.bool true) (fun K9 hK9=>by go_simp;exact hK9) ?_
    (try simp only[pq])
    refine zac (by rw[hO];kernel_rfl) (.int .i64 y) (fun K9 hK9=>by go_simp;exact hK9) ?_
    (try simp only[pq])
    refine zac (by rw[hO];kernel_rfl) (.bool true) (fun K9 hK9=>by go_simp;rw[show (y != 0)=true from by simpa using hy];exact hK9) ?_
    (try simp only[pq])
    refine zac (by rw[hO];kernel_rfl) (.bool true) (fun K9 hK9=>by go_simp;exact hK9) ?_
    (try simp only[pq])
    refine zam (by rw[hO];kernel_rfl) ?_
    (try simp only[pq])
    refine zam (by rw[hO];kernel_rfl) ?_
    (try simp only[pq])
    refine zam (by rw[hO];kernel_rfl) ?_
    (try simp only[pq])
    refine zam (by rw[hO];kernel_rfl) ?_
    (try simp only[pq])
    refine zam (by rw[hO];kernel_rfl) ?_
    (try simp only[pq])
    refine zac (by rw[hO];kernel_rfl) (.bool true) (fun K9 hK9=>by go_simp;exact hK9) ?_
    (try simp only[pq])
    refine zac (by rw[hO];kernel_rfl) (.bool true) (fun K9 hK9=>by go_simp;exact hK9) ?_
    (try simp only[pq])
    refine zac (by rw[hO];kernel_rfl) (.bool true) (fun K9 hK9=>by go_simp;exact hK9) ?_
    (try simp only[pq])
    refine zbm (by rw[hO];kernel_rfl) fun K9 hK9 => ?_
    go_simp
    go_at_call 12
    refine (zjv _ (uh HT4)).mono ?_
    rintro e w9 ⟨rfl,g9⟩
    have HG9:=hide (tn (uh HG4) g9)
    refine hK9 _ _ ?_
    clear hK9 K9
    (try simp only[pq])
    refine zac (by rw[hO];kernel_rfl) (.bool true) (fun K9 hK9=>by go_simp;exact hK9) ?_
    (try simp only[pq])
    refine zac (by rw[hO];kernel_rfl) (.bool true) (fun K9 hK9=>by go_simp;exact hK9) ?_
    (try simp only[pq])
    go_wp2_with fail
    go_ret
    exact ⟨rfl,uh HG9⟩
 ·have hsd:decide (zcd (L.map (·.o))≤60000)=false:=by simpa using hs
  rw[hsd] at cs
  clear hm hO hT hs hsd hn
  go_enter Tryz.func3,Tryz.ntmps3
  go_wp2_with fail
  refine cs.mono ?_
  rintro e w1 ⟨rfl,hw1⟩
  subst hw1
  go_wp2_with fail
  go_ret
  exact ⟨rfl,zaa _ _⟩
end Go.Proofs.YtegbbkgmiklhcaaGreatDoor
