/- Lemmas. -/
import Derived.Test.YtegbbkgmiklhcaaGreatDoorPkM
import Derived.Test.YtegbbkgmiklhcaaGreatDoorOLink2
namespace Go.Proofs.YtegbbkgmiklhcaaGreatDoor
open Go.RowKit
set_option maxRecDepth 100000
theorem zbz:(Tryz.prog.info? 42).map (·.size)=some 2:=by kernel_rfl
theorem zix (r:ObP):(obP r).toArray.all (·.oneCell')=true:=all_oneCell_toArray (zli r)
theorem zfv (wr:World) (OC:List Value):∃ W3,W3=(wr.alloc (.cells #[.int .i64 0,.slice none 0 0] 42)).setRow wr.heap.size OC.toArray∧Blk (wr.alloc (.cells #[.int .i64 0,.slice none 0 0] 42)) wr.heap.size 42 [.int .i64 0,.slice none 0 0]∧Blk W3 wr.heap.size 42 OC∧wr.grownBy W3 none:=by
 obtain ⟨W3,h1,h2,h3⟩:=zbg wr 42 #[.int .i64 0,.slice none 0 0] OC
 exact ⟨W3,h1,Blk.new wr 42 [.int .i64 0,.slice none 0 0],h2,h3⟩
def errC (l:List Ob):Int:=match l.find? fun o=>zar o.1 o.2 != 0 with | some o=>zar o.1 o.2 | none=>0
theorem zfw {l:List Ob} (h:∀ o∈l,OkO o):errC l=0:=by
 unfold errC
 have:l.find? (fun o=>zar o.1 o.2 != 0)=none:=List.find?_eq_none.2 fun o ho=>by
  have:=h o ho
  unfold OkO at this
  simp[this]
 rw[this]
theorem zoe {l:List Ob} {i:Nat} (hi:i<l.length) (h:∀ o∈l.take i,OkO o) (hb:zar l[i].1 l[i].2≠0):errC l=zar l[i].1 l[i].2:=by
 unfold errC
 have e:l.find? (fun o=>zar o.1 o.2 != 0)=some l[i]:=by
  rw[List.find?_eq_some_iff_getElem]
  refine ⟨by simpa using hb,i,hi,rfl,fun j hj => ?_⟩
  have:=h l[j] (List.mem_take_iff_getElem.2 ⟨j,by omega,rfl⟩)
  unfold OkO at this
  simp[this]
 rw[e]
theorem zmp {l:List Ob} (h:errC l=0):∀ o∈l,OkO o:=by
 unfold errC at h
 split at h
 ·rename_i o ho
  have:=List.find?_some ho
  simp only[bne_iff_ne,ne_eq] at this
  exact absurd h this
 ·rename_i ho
  intro o hm
  have:=List.find?_eq_none.1 ho o hm
  simpa[OkO] using this
set_option maxHeartbeats 2000000 in
theorem zfx (w:World) (ao:Option Addr) (c:Nat) (L:List ObP) (hO:Obsl w ao c L) (hm:L.length≤100000) :
  Calls Tryz.prog 21 #[.slice ao L.length c] w fun e w'=>e = .returned (.int .i64 (errC (L.map (·.o))))∧w.grownBy w' none:=by
 obtain ⟨n,hn⟩:∃ n,n=L.length:=⟨_,rfl⟩
 rw[← hn] at hm ⊢
 obtain ⟨HN,HO⟩:=zh2 hn hO
 clear hn hO
 go_enter Tryz.func21,Tryz.ntmps21
 go_wp2_with fail
 go_loopw [8] (fun vi wr=>∃ i:Nat,vi = .int .i64 i∧i≤n∧Hid ((∀ o∈(L.map (·.o)).take i,OkO o)∧w.grownBy wr none)) (fun vi _=>n - (intOf vi).toNat)
 case atStart=>exact ⟨0,rfl,Nat.zero_le _,⟨fun o ho=>by simp at ho,zab _ _⟩⟩
 case round =>
  obtain ⟨i,rfl,hin,HR⟩:=hrel
  by_cases hi:i<n
  ·have hiz:(i:Int)<(n:Int):=by omega
   have hiL:i<L.length:=by rw[← uh HN];exact hi
   obtain ⟨b,o,rfl,hr0,hb0⟩:=(uh HO).at i hiL
   have hr:=zad hr0 (uh HR).2 (by simp)
   have hbt:=hb0.kept (uh HR).2 (fun _ e=>by cases e)
   obtain ⟨r,hre⟩:∃ r,r=L[i]:=⟨_,rfl⟩
   rw[← hre] at hr hbt
   obtain ⟨OC,hOC⟩:∃ C,C=obP r:=⟨_,rfl⟩
   rw[← hOC] at hr
   obtain ⟨W3,hW3,hBZ,hB3,g3⟩:=zfv wr OC
   have hr3:=zal hB3
   have hiO:(Tryz.prog.info? 42).map (·.size)=some OC.length:=by rw[hOC];exact zbz
   have hiO2:(Tryz.prog.info? 42).map (·.size)=some OC.toArray.size:=by rw[hOC];exact zbz
   have hoo:OC.toArray.all (·.oneCell')=true:=by rw[hOC];exact zix r
   have hzs:([Value.int .i64 0,.slice none 0 0]:List Value).toArray.size=OC.toArray.size:=by rw[hOC];rfl
   have cp:=zfq W3 r.k r.ao r.c r.d (hbt.kept g3 (fun _ e=>by cases e))
   rw[show Value.agg #[.int .i64 r.k,.slice r.ao r.d.length r.c] = .agg OC.toArray by rw[hOC];rfl] at cp
   obtain ⟨y,hy⟩:∃ y,y=zar r.k r.d:=⟨_,rfl⟩
   rw[← hy] at cp
   obtain ⟨HY,HRE,HIO,HIO2,HOO,HZS⟩:=zh6 hy hre hiO hiO2 hoo hzs
   obtain ⟨HW3,HBZ,HR3⟩:=zh3 hW3 hBZ hr3
   have HG3:=hide (tn (uh HR).2 g3)
   have hwi:IntKind.i64.wrap ((i:Int)+1)=(i:Int)+1:=by rw[IntKind.wrap_i64];omega
   have hget:(L.map (·.o))[i]'(by simpa using hiL)=r.o:=by simp[hre]
   have HGT:=hide hget
   clear hget hy hre hOC hB3 hBZ hW3 hr3 hiO hiO2 hoo hzs g3 hr0 hb0 hbt
   have HH:=hide hr
   clear hr
   by_cases hz:y=0
   ·have hq:(y == 0)=true:=by simp[hz]
    have HZ:=hide hz
    clear hz
    go_wp2_with (first
     | (refine wpList_load_mid rfl 42 _ rfl b (o+i*2) rfl OC _ (uh HH) Tryz.underlying42 rfl (uh HIO) ?_;clear HH)
     | (refine wpList_store_row rfl 42 _ _ rfl wr.heap.size OC.toArray rfl rfl _ _ (uh HBZ) (uh HIO2) (uh HZS) (uh HOO) ?_;rw[← uh HW3])
     | (refine wpList_load_mid rfl 42 _ rfl wr.heap.size 0 rfl OC _ (uh HR3) Tryz.underlying42 rfl (uh HIO) ?_)
     | (go_at_call 40;refine cp.mono ?_;rintro e w4 ⟨rfl,g4⟩;have HG4:=hide (tn (uh HG3) g4);clear g4 cp))
    go_roundw
    case rel =>
     refine ⟨i+1,by go_num,by omega,⟨fun q hq => ?_,uh HG4⟩⟩
     rw[List.take_succ_eq_append_getElem (by simpa using hiL)] at hq
     rcases List.mem_append.1 hq with hq | hq
     ·exact (uh HR).1 q hq
     ·rw[List.mem_singleton.1 hq,uh HGT]
      show zar r.k r.d=0
      rw[← uh HY]
      exact uh HZ
    case measure=>simp[intOf];omega
   ·have hq:(y == 0)=false:=by simp[hz]
    have HZ:=hide hz
    go_wp2_with (first
     | (refine wpList_load_mid rfl 42 _ rfl b (o+i*2) rfl OC _ (uh HH) Tryz.underlying42 rfl (uh HIO) ?_;clear HH)
     | (refine wpList_store_row rfl 42 _ _ rfl wr.heap.size OC.toArray rfl rfl _ _ (uh HBZ) (uh HIO2) (uh HZS) (uh HOO) ?_;rw[← uh HW3])
     | (refine wpList_load_mid rfl 42 _ rfl wr.heap.size 0 rfl OC _ (uh HR3) Tryz.underlying42 rfl (uh HIO) ?_)
     | (go_at_call 40;refine cp.mono ?_;rintro e w4 ⟨rfl,g4⟩;have HG4:=hide (tn (uh HG3) g4);clear g4 cp))
    go_ret
    refine ⟨?_,uh HG4⟩
    rw[zoe (i:=i) (by simpa using hiL) (uh HR).1 (by rw[uh HGT];show zar r.k r.d≠0;rw[← uh HY];exact uh HZ),uh HGT,uh HY]
    rfl
  ·have hiz:¬ (i:Int)<(n:Int):=by omega
   go_wp2_with fail
   go_ret
   refine ⟨?_,(uh HR).2⟩
   rw[zfw fun q hq=>(uh HR).1 q (by rw[List.take_of_length_le (by simp;have:=uh HN;omega)];exact hq)]
   rfl
def lenO (l:List Ob):Nat:=6+(l.map fun o=>5+o.2.length).sum
theorem zmq (l:List Ob) (i:Nat):lenO (l.take i)≤lenO l:=by
 have h:lenO (l.take i++l.drop i)=lenO (l.take i)+((l.drop i).map fun o=>5+o.2.length).sum:=by
  unfold lenO
  rw[List.map_append,List.sum_append]
  omega
 rw[List.take_append_drop] at h
 omega
set_option maxHeartbeats 2000000 in
theorem zk1 (w:World) (ao:Option Addr) (c:Nat) (L:List ObP) (hO:Obsl w ao c L) (hm:L.length≤100000) (hb:lenO (L.map (·.o))≤1152921504606846976) :
  Calls Tryz.prog 11 #[.slice ao L.length c] w fun e w'=>e = .returned (.int .i64 (lenO (L.map (·.o)):Nat))∧w.grownBy w' none:=by
 obtain ⟨n,hn⟩:∃ n,n=L.length:=⟨_,rfl⟩
 rw[← hn] at hm ⊢
 obtain ⟨HN,HO,HBD⟩:=zh3 hn hO hb
 clear hn hO hb
 go_enter Tryz.func11,Tryz.ntmps11
 go_wp2_with fail
 go_loopw [3,8] (fun vn vi wr=>∃ i m:Nat,vi = .int .i64 i∧vn = .int .i64 m∧i≤n∧m≤1152921504606846976∧Hid (m=lenO ((L.map (·.o)).take i)∧w.grownBy wr none)) (fun _ vi _=>n - (intOf vi).toNat)
 case atStart=>exact ⟨0,6,rfl,rfl,Nat.zero_le _,by omega,⟨rfl,zab _ _⟩⟩
 case round =>
  obtain ⟨i,m,rfl,rfl,hin,hmb,HR⟩:=hrel
  by_cases hi:i<n
  ·have hiz:(i:Int)<(n:Int):=by omega
   have hiL:i<L.length:=by rw[← uh HN];exact hi
   obtain ⟨b,o,rfl,hr0,hb0⟩:=(uh HO).at i hiL
   have hr:=zad hr0 (uh HR).2 (by simp)
   obtain ⟨r,hre⟩:∃ r,r=L[i]:=⟨_,rfl⟩
   rw[← hre] at hr
   obtain ⟨OC,hOC⟩:∃ C,C=obP r:=⟨_,rfl⟩
   rw[← hOC] at hr
   obtain ⟨W3,hW3,hBZ,hB3,g3⟩:=zfv wr OC
   have c31:W3.cell? ⟨wr.heap.size,1,none⟩=some (.slice r.ao r.d.length r.c):=by rw[hOC] at hB3;exact hB3.cell 1
   have hiO:(Tryz.prog.info? 42).map (·.size)=some OC.length:=by rw[hOC];exact zbz
   have hiO2:(Tryz.prog.info? 42).map (·.size)=some OC.toArray.size:=by rw[hOC];exact zbz
   have hoo:OC.toArray.all (·.oneCell')=true:=by rw[hOC];exact zix r
   have hzs:([Value.int .i64 0,.slice none 0 0]:List Value).toArray.size=OC.toArray.size:=by rw[hOC];rfl
   obtain ⟨dn,hdn⟩:∃ n,n=r.d.length:=⟨_,rfl⟩
   rw[← hdn] at c31
   have hget:(L.map (·.o))[i]'(by simpa using hiL)=r.o:=by simp[hre]
   have hnext:lenO ((L.map (·.o)).take (i+1))=m+(5+dn):=by
    rw[List.take_succ_eq_append_getElem (by simpa using hiL),hget]
    unfold lenO
    rw[List.map_append,List.sum_append]
    have:=(uh HR).1
    unfold lenO at this
    rw[this,hdn]
    simp only[List.map_cons,List.map_nil,List.sum_cons,List.sum_nil,ObP.o]
    omega
   have hle:m+(5+dn)≤1152921504606846976:=by
    rw[← hnext]
    exact Nat.le_trans (zmq _ _) (uh HBD)
   obtain ⟨HNX,HIO,HIO2,HOO,HZS,HW3⟩:=zh6 hnext hiO hiO2 hoo hzs hW3
   have HBZ:=hide hBZ
   have HG3:=hide (tn (uh HR).2 g3)
   have hwi:IntKind.i64.wrap ((i:Int)+1)=(i:Int)+1:=by rw[IntKind.wrap_i64];omega
   have HH:=hide hr
   clear hr hnext hdn hget hre hOC hB3 hBZ hW3 hiO hiO2 hoo hzs g3 hr0 hb0
   go_wp2_with (first
    | (refine wpList_load_mid rfl 42 _ rfl b (o+i*2) rfl OC _ (uh HH) Tryz.underlying42 rfl (uh HIO) ?_;clear HH)
    | (refine wpList_store_row rfl 42 _ _ rfl wr.heap.size OC.toArray rfl rfl _ _ (uh HBZ) (uh HIO2) (uh HZS) (uh HOO) ?_;rw[← uh HW3]))
   go_roundw
   case rel=>exact ⟨i+1,m+(5+dn),by go_num,by go_num,by omega,hle,⟨(uh HNX).symm,uh HG3⟩⟩
   case measure=>simp[intOf];omega
  ·have hiz:¬ (i:Int)<(n:Int):=by omega
   go_wp2_with fail
   go_ret
   refine ⟨?_,(uh HR).2⟩
   have:=(uh HR).1
   rw[List.take_of_length_le (by simp;have:=uh HN;omega)] at this
   rw[this]
   rfl
def zbo (l:List Ob):Nat:=(l.map fun o=>9+min o.2.length 40000).sum
theorem ziy (l:List Ob) (o:Ob):zbo (l++[o])=zbo l+(9+min o.2.length 40000):=by simp[zbo]
theorem ziz (l:List Ob) (i:Nat):zbo (l.take i)≤zbo l:=by
 have h:zbo (l.take i++l.drop i)=zbo (l.take i)+zbo (l.drop i):=by unfold zbo;rw[List.map_append,List.sum_append]
 rw[List.take_append_drop] at h
 omega
set_option maxHeartbeats 2000000 in
theorem zhv (w:World) (ao:Option Addr) (c:Nat) (L:List ObP) (hO:Obsl w ao c L) (hm:L.length≤9223372036854775807) :
  Calls Tryz.prog 7 #[.slice ao L.length c] w fun e w'=>e = .returned (.bool (decide (zbo (L.map (·.o))≤60000)))∧w'=w:=by
 obtain ⟨n,hn⟩:∃ n,n=L.length:=⟨_,rfl⟩
 rw[← hn] at hm ⊢
 obtain ⟨HN,HO⟩:=zh2 hn hO
 clear hn hO
 go_enter Tryz.func7,Tryz.ntmps7
 go_wp2_with fail
 go_loopw [3,4] (fun vn vi wr=>∃ i m:Nat,vi = .int .i64 i∧vn = .int .i64 m∧i≤n∧m≤60000∧wr=w∧Hid (m=zbo ((L.map (·.o)).take i))) (fun _ vi _=>n - (intOf vi).toNat)
 case atStart=>exact ⟨0,0,rfl,rfl,Nat.zero_le _,by omega,rfl,rfl⟩
 case round =>
  obtain ⟨i,m,rfl,rfl,hin,hmb,rfl,HR⟩:=hrel
  by_cases hi:i<n
  ·have hiz:(i:Int)<(n:Int):=by omega
   have hiL:i<L.length:=by rw[← uh HN];exact hi
   obtain ⟨b,o,rfl,hr0,hb0⟩:=(uh HO).at i hiL
   obtain ⟨r,hre⟩:∃ r,r=L[i]:=⟨_,rfl⟩
   rw[← hre] at hr0 hb0
   have c1:=hr0 1 (.slice r.ao r.d.length r.c) rfl
   obtain ⟨dn,hdn⟩:∃ n,n=r.d.length:=⟨_,rfl⟩
   rw[← hdn] at c1
   obtain ⟨p,hp⟩:∃ p,p=min dn 40000:=⟨_,rfl⟩
   have hget:(L.map (·.o))[i]'(by simpa using hiL)=r.o:=by simp[hre]
   have hnext:zbo ((L.map (·.o)).take (i+1))=m+(9+p):=by
    rw[List.take_succ_eq_append_getElem (by simpa using hiL),hget,ziy,← uh HR,hp,hdn]
    rfl
   have hpb:p≤40000:=by omega
   have hmin:(if (dn:Int)≤40000 then (dn:Int) else 40000)=(p:Int):=by split <;> omega
   have hmin2:(if (40000:Int)<(dn:Int) then (40000:Int) else (dn:Int))=(p:Int):=by split <;> omega
   have hmin3:min (dn:Int) 40000=(p:Int):=by omega
   have ha1:IntKind.i64.wrap ((m:Int)+9)=(m:Int)+9:=by rw[IntKind.wrap_i64];omega
   have ha2:IntKind.i64.wrap ((m:Int)+9+(p:Int))=((m+(9+p):Nat):Int):=by rw[IntKind.wrap_i64];omega
   have hwi:IntKind.i64.wrap ((i:Int)+1)=(i:Int)+1:=by rw[IntKind.wrap_i64];omega
   have HNX:=hide hnext
   clear hnext hget hre hr0 hb0 hdn hp
   obtain ⟨m2,hm2⟩:∃ z,z=m+(9+p):=⟨_,rfl⟩
   rw[← hm2] at ha2 HNX
   by_cases hs:m2≤60000
   ·have hsz:¬ (60000:Int)<(m2:Int):=by omega
    clear hm2
    go_wp2_with fail
    go_roundw
    case rel=>exact ⟨i+1,m2,by go_num,rfl,by omega,hs,trivial,(uh HNX).symm⟩
    case measure=>simp[intOf];omega
   ·have hsz:(60000:Int)<(m2:Int):=by omega
    clear hm2
    go_wp2_with fail
    go_ret
    have:=ziz (L.map (·.o)) (i+1)
    rw[uh HNX] at this
    rw[decide_eq_false (by omega)]
    exact ⟨rfl,rfl⟩
  ·have hiz:¬ (i:Int)<(n:Int):=by omega
   go_wp2_with fail
   go_ret
   have:=uh HR
   rw[List.take_of_length_le (by simp;have:=uh HN;omega)] at this
   rw[decide_eq_true (by omega)]
   exact ⟨rfl,rfl⟩
end Go.Proofs.YtegbbkgmiklhcaaGreatDoor
