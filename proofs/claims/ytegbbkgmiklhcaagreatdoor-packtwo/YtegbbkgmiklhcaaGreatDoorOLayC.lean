/- Lemmas. -/
import Derived.Laws.IdiomStrings
import Derived.Test.YtegbbkgmiklhcaaGreatDoorOData
namespace Go.Proofs.YtegbbkgmiklhcaaGreatDoor
open Go.RowKit
set_option maxRecDepth 100000
theorem zdb (w:World) (l:List UInt8) (hl:l.length≤maxLen):∃ cap W1,(convert 9 24 (.string (str l))).run Tryz.prog w = .ok (.slice (some ⟨w.heap.size,0,none⟩) l.length cap) W1∧Bts W1 (some ⟨w.heap.size,0,none⟩) cap l∧w.grownBy W1 none:=by
 have h:=run_bytes_of_string (P:=Tryz.prog) w 9 24 5 (str l) Tryz.underlying9 Tryz.underlying24 Tryz.underlying5
 rw[zba] at h
 refine ⟨_,_,h,?_,zai (zas (zab _ _)) _⟩
 refine ⟨(fun e=>by cases e),grownCap_ge _ _ _ _,grownCap_le_maxLen _ _ _ _ hl,(fun ad e _=>by cases e;rfl),(fun ad e i hi => ?_)⟩
 cases e
 have hh:(w.drew.alloc (.cells (bytesRow (str l) (grownCap w l.length 0 5)) 5 ((bytesRow (str l) (grownCap w l.length 0 5)).size,(bytesRow (str l) (grownCap w l.length 0 5)).size+1))).heap[w.heap.size]? = some (.cells (bytesRow (str l) (grownCap w l.length 0 5)) 5 ((bytesRow (str l) (grownCap w l.length 0 5)).size,(bytesRow (str l) (grownCap w l.length 0 5)).size+1)):=heap_alloc_new w.drew _
 rw[show (⟨w.heap.size,0,none⟩:Addr).off+i=i from Nat.zero_add i,cell_of_row _ _ _ _ _ _ hh]
 unfold bytesRow
 rw[Array.getElem?_append_left (by simp[str];exact hi)]
 simp[str,hi]
theorem lenU (n:Nat) (h:n<18446744073709551616):IntKind.u64.wrap (n:Int)=(n:Int):=by rw[IntKind.wrap_u64];omega
theorem zf9 (es:List EntL) (j:Nat) (hj:j<es.length):(es.take (j+1)).flatMap entB=(es.take j).flatMap entB++entB es[j]:=by
 rw[List.take_succ_eq_append_getElem hj,List.flatMap_append];simp
theorem znn (es:List EntL) (M:Nat) (hid:∀ e∈es,e.id.length=32) (hs:∀ e∈es,e.name.length≤M):∀ j,j≤es.length→((es.take j).flatMap entB).length≤j*(M+37):=by
 intro j
 induction j with
 | zero=>intro _;simp
 | succ j ih =>
  intro hj
  have h1:=ih (by omega)
  have h2:=hid _ (List.getElem_mem (l:=es) (n:=j) (by omega))
  have h3:=hs _ (List.getElem_mem (l:=es) (n:=j) (by omega))
  rw[zf9 es j (by omega),List.length_append]
  simp only[entB,List.length_append,zbp,zdg,Nat.succ_mul]
  omega
set_option maxHeartbeats 2000000 in
theorem zii (w:World) (ao:Option Addr) (c:Nat) (es:List EntL) (hE:Ens w ao c es) (hn:es.length≤32) (hs:∀ e∈es,e.name.length≤1000000) :
  Calls Tryz.prog 138 #[.slice ao es.length c] w fun e w'=>∃ v,e = .returned v∧NewB w w' v (zj8 es)∧w.grownBy w' none:=by
 obtain ⟨Z,hZ,hzv⟩:=zgs
 have cp:=ze8 w none 0 [] es.length 2 (Bts.nil w) (by simp)
 have hsum:=znn es 1000000 hE.ids hs
 have hcv:=lenU es.length (by omega)
 have HA:Hid (∀ i (hi:i<es.length),(lb es.length 2++(es.take (i+1)).flatMap entB)=(((lb es.length 2++(es.take i).flatMap entB)++lb (dirN es[i].dir) 1)++layS es[i].name)++es[i].id):=by
  intro i hi
  rw[zf9 es i hi]
  simp[entB]
 have HN:=hide hn
 obtain ⟨n,hln⟩:∃ n,n=es.length:=⟨_,rfl⟩
 have hn' : n≤32:=by omega
 rw[← hln] at cp hcv hsum ⊢
 rw[show nb 2=2 from by decide,List.nil_append] at cp
 obtain ⟨HE,HM,HS,HL,HZ⟩:=zh5 hE hs hsum hln hZ
 clear hE hsum hs hln hn hZ
 go_enter Tryz.func138,Tryz.ntmps138
 go_wp2_with (go_at_call 23;refine cp.mono ?_;rintro e w1 ⟨v1,rfl,ho1,g1⟩;clear cp)
 go_loopw [3,13] (fun v i wr=>∃ j:Nat,i = .int .i64 j∧j≤n∧wr.ownsRow w.heap.size 5 1 v (lb n 2++(es.take j).flatMap entB).length ((lb n 2++(es.take j).flatMap entB).map bv)∧w.grownBy wr none) (fun _ i _=>n - (intOf i).toNat)
 case atStart=>exact ⟨0,rfl,Nat.zero_le _,by simpa using ho1,g1⟩
 case round =>
  obtain ⟨j,rfl,hj,ho,hg⟩:=hrel
  by_cases hlt:j<n
  ·have hlt' : j<es.length:=by have:=uh HL;omega
   obtain ⟨b,o,hao,hrow⟩:=(uh HE).at j hlt'
   have hr:=zad (hrow j hlt') hg (by simp)
   have hid:=(uh HE).ids _ (List.getElem_mem hlt')
   have hnl:=(uh HM) _ (List.getElem_mem hlt')
   have hle:=uh HS j hj
   have hnew:=uh HA j hlt'
   rw[← uh HL] at hnew
   obtain ⟨E,hEE⟩:∃ E,E=es[j]:=⟨_,rfl⟩
   rw[← hEE] at hr hid hnl hnew
   obtain ⟨P0,hP0⟩:∃ L,L=lb n 2++(es.take j).flatMap entB:=⟨_,rfl⟩
   have hl0:P0.length≤100000000:=by
    rw[hP0,List.length_append,zbp]
    have:j*(1000000+37)≤32*(1000000+37):=Nat.mul_le_mul_right _ (by omega)
    omega
   rw[← hP0] at ho hnew
   obtain ⟨P1,hP1⟩:∃ L,L=lb n 2++(es.take (j+1)).flatMap entB:=⟨_,rfl⟩
   rw[← hP1] at hnew
   have HP1:=hide hP1
   clear hrow hEE hP0 hle hP1
   subst hao
   obtain ⟨nm,D,id⟩:=E
   simp only at hid hnl hnew
   obtain ⟨EC,hEC⟩:∃ L,L=enC ⟨nm,D,id⟩:=⟨_,rfl⟩
   have hEl:EC.length=34:=by rw[hEC];exact zeb _ hid
   have hEo:EC.toArray.all (·.oneCell')=true:=by rw[hEC];exact all_oneCell_toArray (zff _)
   obtain ⟨W,hW,hB,gW⟩:=zbg wr 154 Z EC
   have hc0:W.cell? ⟨wr.heap.size,0,none⟩=some (.string (str nm)):=by rw[hB.cell 0,hEC];rfl
   have hc1:W.cell? ⟨wr.heap.size,1,none⟩=some (.bool D):=by rw[hB.cell 1,hEC];rfl
   have hRI:W.rangeAt wr.heap.size 2 (id.map bv):=by
    have:=zal hB
    rw[hEC] at this
    simpa using zqj this
   rw[← hEC] at hr
   have hG:=tn hg gW
   obtain ⟨hl1,ao1,k1,hv1,hb1,_⟩:=zcf (zdf ho gW)
   subst hv1
   obtain ⟨HW,HWB,HEC,HEO,HRI,HHG⟩:=zh6 hW hB hEC hEo hRI hG
   have hiE:(Tryz.prog.info? 154).map (·.size)=some EC.length:=by rw[hEl];exact zgq
   have HIE:=hide hiE
   have hZE:Z.size=EC.toArray.size:=by rw[uh HZ];simp[hEl]
   have HZE:=hide hZE
   have cput:=ze8 W ao1 k1 P0 (dirN D) 1 hb1 (by omega)
   rw[show nb 1=1 from by decide,← hl1] at cput
   have hlp:(P0++lb (dirN D) 1).length≤100000001:=by rw[List.length_append,zbp];omega
   obtain ⟨Q1,hQ1⟩:∃ Q,Q=P0++lb (dirN D) 1:=⟨_,rfl⟩
   obtain ⟨Q2,hQ2⟩:∃ Q,Q=Q1++layS nm:=⟨_,rfl⟩
   rw[← hQ1] at cput hlp hnew
   rw[← hQ2] at hnew
   have hlb:Q2.length+32≤140737488355328:=by rw[hQ2,List.length_append,zdg];omega
   obtain ⟨HLB,HQ2⟩:=zh2 hlb hQ2
   clear hQ1 hlb hQ2
   obtain ⟨HLP,HNW⟩:=zh2 hlp hnew
   obtain ⟨N,hN⟩:∃ N,N=str nm:=⟨_,rfl⟩
   have HNN:=hide hN
   rw[← hN] at hc0
   clear hW hB hEC hEo hnew hRI hG hiE hZE hb1 ho hl1 hlp hN hEl hl0
   cases D
   all_goals
    go_wp2_with (first
     | (refine wpList_load_mid rfl 154 _ rfl b (o+j*34) rfl EC _ hr Tryz.underlying154 rfl (uh HIE) ?_;clear hr)
     | (refine wpList_store_row rfl 154 _ _ rfl wr.heap.size EC.toArray rfl rfl _ _ (heap_alloc_new _ _) (by simpa using uh HIE) (uh HZE) (uh HEO) ?_;rw[← uh HW]))
    refine cput.mono ?_
    rintro e w2 ⟨v2,rfl,ho2,g2⟩
    obtain ⟨hl2,ao2,k2,hv2,hb2,_⟩:=zcf ho2
    subst hv2
    have hc2:=g2.cell hc0 (by simp)
    have hR2:=zad (uh HRI) g2 (by simp)
    have G2:=tn (uh HHG) g2
    obtain ⟨cap,W3,hcv,hb3,g3⟩:=zdb w2 nm (by unfold maxLen;omega)
    rw[← uh HNN] at hcv
    have cs:=zb9 W3 ao2 _ k2 cap _ nm (hb2.kept g3 (fun _ e=>by cases e)) hb3 (by have:=uh HLP;omega)
    have G3:=hide (tn G2 g3)
    have R3:=hide (zad hR2 g3 (by simp))
    clear hb2 hb3 cput hc0 hc1 ho2 g2 hR2 G2 g3
    go_wp2_with fail
    refine cs.mono ?_
    rintro e w4 ⟨v4,rfl,ho4,g4⟩
    rw[← uh HQ2] at ho4
    have hbI:Bts w4 (some ⟨wr.heap.size,2,none⟩) 32 id:=by
     have:=zc7 (zad (uh R3) g4 (by simp)) (by rw[hid];unfold maxLen;omega)
     rwa [hid] at this
    have G4:=hide (tn (uh G3) g4)
    have ho4':=hide (zb5 ho4 (uh G3).size)
    have hsl:=zcb wr.heap.size 2
    have hs4:w.heap.size≤w4.heap.size:=(uh G4).size
    clear cs hcv hc2 g4 ho4 R3 G3
    go_wp2_with (refine zbw rfl _ _ rfl w.heap.size _ _ _ rfl (uh ho4') _ _ id hbI 32 hid.symm rfl (uh HLB) hs4 ?_;intro v5 w5 ho5 g5;have G5:=hide (zgj (uh G4) (uh ho4') g5);have HO5:=hide ho5;clear g5 ho5 ho4' G4 hbI)
    go_roundw
    case rel =>
     refine ⟨j+1,by go_num,by omega,?_,uh G5⟩
     have:=uh HO5
     rw[← uh HP1,uh HNW,List.length_append,List.map_append,hid]
     exact this
    case measure=>simp[intOf];omega
  ·have hjn:j=n:=by omega
   have hfin:lb n 2++(es.take j).flatMap entB=zj8 es:=by
    rw[hjn,uh HL,List.take_of_length_le (Nat.le_refl _)];rfl
   rw[hfin] at ho
   have HO:=hide ho
   clear ho hfin hjn
   go_wp2
   go_ret
   exact ⟨_,rfl,NewB.own (uh HO),hg⟩
theorem zga (ps:List (List UInt8)) (j:Nat) (hj:j<ps.length):(ps.take (j+1)).flatten=(ps.take j).flatten++ps[j]:=by
 rw[List.take_succ_eq_append_getElem hj,List.flatten_append];simp
theorem zno (ps:List (List UInt8)) (hid:∀ x∈ps,x.length=32):∀ j,j≤ps.length→((ps.take j).flatten).length=j*32:=by
 intro j
 induction j with
 | zero=>intro _;simp
 | succ j ih =>
  intro hj
  rw[zga ps j (by omega),List.length_append,ih (by omega),hid _ (List.getElem_mem _),Nat.succ_mul]
set_option maxHeartbeats 4000000 in
theorem zke (w:World) (c:ChgL) (po:Option Addr) (pc:Nat) (hP:Ids w po pc c.pars) (ht:c.tree.length=32) (hn:c.pars.length≤4) (ha:c.author.length≤1000000) (hx:c.text.length≤1000000) :
  Calls Tryz.prog 140 #[.int .i64 3,.agg (chC c po pc).toArray] w fun e w'=>∃ v,e = .returned v∧NewB w w' v (chgB c)∧w.grownBy w' none:=by
 obtain ⟨tree,pars,time,author,text⟩:=c
 simp only at hP ht hn ha hx
 obtain ⟨Z,hZ,hzv⟩:=zc8
 obtain ⟨q1,q2,q3,q4⟩:=zjb ⟨tree,pars,time,author,text⟩ po pc ht
 obtain ⟨C,hC⟩:∃ C,C=chC ⟨tree,pars,time,author,text⟩ po pc:=⟨_,rfl⟩
 have HQ:Hid (chgB ⟨tree,pars,time,author,text⟩=(((tree++lb pars.length 1)++pars.flatten)++lb time 8++layS author)++layS text):=rfl
 have hsum:=zno pars hP.ids
 have hcv:=lenU pars.length (by omega)
 have HF:Hid ((tree++lb pars.length 1)++(pars.take pars.length).flatten=(tree++lb pars.length 1)++pars.flatten):=by rw[List.take_of_length_le (Nat.le_refl _)];exact rfl
 rw[← hC] at q1 q2 q3 q4 ⊢
 obtain ⟨W0,hW0,hB0,g0⟩:=zah w 156 C
 have c1:W0.cell? ⟨w.heap.size,32,none⟩=some (.slice po pars.length pc):=by rw[hB0.cell 32,q1]
 have hbT:Bts W0 (some ⟨w.heap.size,0,none⟩) 32 tree:=by
  have h1:=zal hB0
  rw[hC] at h1
  have:=zc7 (zgr h1) (by rw[show (ChgL.tree _).length=32 from ht];unfold maxLen;omega)
  rwa [show (ChgL.tree _).length=32 from ht] at this
 have hsl:=zcb w.heap.size 0
 have ccl:=zf5 W0 w.heap.size 0 32 tree hbT (by omega)
 rw[ht] at ccl
 obtain ⟨n,hln⟩:∃ n,n=pars.length:=⟨_,rfl⟩
 have hn' : n≤4:=by omega
 obtain ⟨TN,hTN⟩:∃ T,T=tree++lb n 1:=⟨_,rfl⟩
 have hTl:TN.length=33:=by rw[hTN,List.length_append,zbp,ht]
 rw[← hln] at c1 hcv hsum
 unfold Hid at HQ HF
 rw[← hln,← hTN] at HQ HF
 have HQ':=hide HQ
 have HF':=hide HF
 obtain ⟨HTN,HL,HP,HS,HZ,HT⟩:=zh6 hTN hln hP hsum hZ ht
 obtain ⟨HC,HC1,HQ2,HQ3,HQ4,HB0⟩:=zh6 hC c1 q2 q3 q4 hB0
 obtain ⟨HW0,HG0⟩:=zh2 hW0 g0
 clear HQ HF hTN hln hP hsum hZ ht hC c1 hW0 g0 hB0 hbT q1 q2 q3 q4 hn
 go_enter Tryz.func140,Tryz.ntmps140
 go_wp2_with (rw[← uh HW0])
 refine ccl.mono ?_
 rintro e w1 ⟨v1,rfl,ho1,g1⟩
 have G1:=tn (uh HG0) g1
 obtain ⟨he1,ao1,k1,hv1,hb1,he2⟩:=zcf ho1
 clear he1 he2
 subst hv1
 have cput:=ze8 w1 ao1 k1 tree n 1 hb1 (by have:=uh HT;omega)
 rw[show nb 1=1 from by decide,← uh HTN,uh HT] at cput
 have hB1:=(uh HB0).kept g1 (by simp)
 have c1:=g1.cell (uh HC1) (by simp)
 clear ccl hsl ho1 hb1 HC1
 go_wp2_with fail
 refine cput.mono ?_
 rintro e w2 ⟨v2,rfl,ho2,g2⟩
 have G2:=tn G1 g2
 have c1':=g2.cell c1 (by simp)
 have ho2':=zb5 ho2 G1.size
 have HB2:=hide (hB1.kept g2 (by simp))
 clear cput c1 ho2 g2 G1 g1 hB1
 go_wp2
 go_loopw [5,25] (fun v i wr=>∃ j:Nat,i = .int .i64 j∧j≤n∧wr.ownsRow w.heap.size 5 1 v (TN++(pars.take j).flatten).length ((TN++(pars.take j).flatten).map bv)∧Hid (Blk wr w.heap.size 156 C)∧w.grownBy wr none) (fun _ i _=>n - (intOf i).toNat)
 case atStart=>exact ⟨0,rfl,Nat.zero_le _,by simpa using ho2',HB2,G2⟩
 case round =>
  obtain ⟨j,rfl,hj,ho,HB,G⟩:=hrel
  by_cases hlt:j<n
  ·have hlt' : j<pars.length:=by have:=uh HL;omega
   obtain ⟨b,o,hao,hrow⟩:=(uh HP).at j hlt'
   have hr:=zad (hrow j hlt') G (by simp)
   have hid:=(uh HP).ids _ (List.getElem_mem hlt')
   have hle:=uh HS j hj
   have hnew:=zga pars j hlt'
   obtain ⟨P0,hP0⟩:∃ L,L=TN++(pars.take j).flatten:=⟨_,rfl⟩
   obtain ⟨E,hEE⟩:∃ E,E=pars[j]:=⟨_,rfl⟩
   have hnew2:TN++(pars.take (j+1)).flatten=P0++E:=by rw[hnew,hP0,hEE,List.append_assoc]
   have hl0:P0.length≤1000:=by rw[hP0,List.length_append];omega
   rw[← hEE] at hr hid
   rw[← hP0] at ho
   obtain ⟨EC,hEC⟩:∃ L,L=E.map bv:=⟨_,rfl⟩
   have hEl:EC.length=32:=by rw[hEC,List.length_map,hid]
   have hEo:EC.toArray.all (·.oneCell')=true:=by rw[hEC];exact all_oneCell_toArray (zaw _)
   obtain ⟨W,hW,hB,gW⟩:=zbg wr 47 Z EC
   have hbI:Bts W (some ⟨wr.heap.size,0,none⟩) 32 E:=by
    have h1:=zal hB
    rw[hEC] at h1
    have:=zc7 h1 (by rw[hid];unfold maxLen;omega)
    rwa [hid] at this
   rw[← hEC] at hr
   have ho':=zdf ho gW
   have hsl:=zcb wr.heap.size 0
   have GW:=hide (tn G gW)
   have HBW:=hide ((uh HB).kept gW (by simp))
   have hs4:w.heap.size≤W.heap.size:=(tn G gW).size
   obtain ⟨HW,HN2,HEO,HID⟩:=zh4 hW hnew2 hEo hid
   have hiE:(Tryz.prog.info? 47).map (·.size)=some EC.length:=by rw[hEl];exact zax
   have HIE:=hide hiE
   have hZE:Z.size=EC.toArray.size:=by rw[uh HZ];simp[hEl]
   have HZE:=hide hZE
   clear hrow hEE hP0 hle hnew hEC hEl hEo hB hW hid hnew2 hiE hZE ho gW G HB
   subst hao
   go_wp2_with (first
    | (refine wpList_load_mid rfl 47 _ rfl b (o+j*32) rfl EC _ hr Tryz.underlying47 rfl (uh HIE) ?_;clear hr)
    | (refine wpList_store_row rfl 47 _ _ rfl wr.heap.size EC.toArray rfl rfl _ _ (heap_alloc_new _ _) (by simpa using uh HIE) (uh HZE) (uh HEO) ?_;rw[← uh HW])
    | (refine zbw rfl _ _ rfl w.heap.size _ _ _ rfl ho' _ _ E hbI 32 (uh HID).symm rfl (by omega) hs4 ?_;intro v5 w5 ho5 g5;have G5:=hide (zgj (uh GW) ho' g5);have HB5:=hide ((uh HBW).kept g5 (zlh ho' (uh HBW) (by decide)));have HO5:=hide ho5;clear g5 ho5 ho' GW hbI HBW))
   go_roundw
   case rel =>
    refine ⟨j+1,by go_num,by omega,?_,HB5,uh G5⟩
    have:=uh HO5
    rw[uh HN2,List.length_append,List.map_append,uh HID]
    exact this
   case measure=>simp[intOf];omega
  ·have hjn:j=n:=by omega
   rw[hjn,uh HF'] at ho
   have hl0:(TN++pars.flatten).length≤1000:=by
    have h1:=uh HS n (Nat.le_refl _)
    rw[uh HL,List.take_of_length_le (Nat.le_refl _)] at h1
    have:=uh HL
    rw[List.length_append];omega
   obtain ⟨P0,hP0⟩:∃ L,L=TN++pars.flatten:=⟨_,rfl⟩
   rw[← hP0] at ho hl0
   have HP0:=hide hP0
   have c2:wr.cell? ⟨w.heap.size,33,none⟩=some (.int .u64 (time:Int)):=by rw[(uh HB).cell 33,uh HQ2]
   have c3:wr.cell? ⟨w.heap.size,34,none⟩=some (.string (str author)):=by rw[(uh HB).cell 34,uh HQ3]
   have c4:wr.cell? ⟨w.heap.size,35,none⟩=some (.string (str text)):=by rw[(uh HB).cell 35,uh HQ4]
   obtain ⟨he1,ao1,k1,hv1,hb1,he2⟩:=zcf ho
   subst hv1
   have cput:=ze8 wr ao1 k1 P0 time 8 hb1 (by omega)
   rw[show nb 8=8 from by decide] at cput
   clear he1 he2 hP0 hjn ho hb1
   go_wp2_with fail
   refine cput.mono ?_
   rintro e w3 ⟨v3,rfl,ho3,g3⟩
   clear cput
   have G3:=tn G g3
   have d3:=g3.cell c3 (by simp)
   have d4:=g3.cell c4 (by simp)
   obtain ⟨P3,hP3⟩:∃ L,L=P0++lb time 8:=⟨_,rfl⟩
   rw[← hP3] at ho3
   have hl3:P3.length≤1010:=by rw[hP3,List.length_append,zbp];omega
   obtain ⟨he1,ao3,k3,hv3,hb3,he2⟩:=zcf ho3
   subst hv3
   obtain ⟨cap3,V3,hcv3,hx3,gx3⟩:=zdb w3 author (by unfold maxLen;omega)
   have cs3:=zb9 V3 ao3 _ k3 cap3 P3 author (hb3.kept gx3 (fun _ e=>by cases e)) hx3 (by omega)
   obtain ⟨P4,hP4⟩:∃ L,L=P3++layS author:=⟨_,rfl⟩
   rw[← hP4] at cs3
   have hlP4:P4.length≤1002000:=by rw[hP4,List.length_append,zdg];omega
   have HX3:=hide (tn G3 gx3)
   have HP4:=hide hP4
   have d4':=gx3.cell d4 (by simp)
   have HP3:=hide hP3
   clear he1 he2 hb3 hx3 gx3 g3 ho3 c2 c3 c4 d4 hP3 hP4
   go_wp2_with fail
   refine cs3.mono ?_
   rintro e w4 ⟨v4,rfl,ho4,g4⟩
   have G4:=tn (uh HX3) g4
   have d5:=g4.cell d4' (by simp)
   clear cs3 hcv3 d3 d4'
   obtain ⟨he1,ao4,k4,hv4,hb4,he2⟩:=zcf ho4
   subst hv4
   obtain ⟨cap4,V4,hcv4,hx4,gx4⟩:=zdb w4 text (by unfold maxLen;omega)
   have cs4:=zb9 V4 ao4 _ k4 cap4 P4 text (hb4.kept gx4 (fun _ e=>by cases e)) hx4 (by omega)
   obtain ⟨P5,hP5⟩:∃ L,L=P4++layS text:=⟨_,rfl⟩
   rw[← hP5] at cs4
   have hlP5:P5.length≤2003000:=by rw[hP5,List.length_append,zdg];omega
   have HX4:=hide (tn G4 gx4)
   have HP5:=hide hP5
   clear he1 he2 hb4 hx4 gx4 g4 ho4 hP5
   go_wp2_with fail
   refine cs4.mono ?_
   rintro e w5 ⟨v5,rfl,ho5,g5⟩
   have G5:=hide (zb5 ho5 (uh HX4).size)
   have G6:=hide (tn (uh HX4) g5)
   clear cs4 hcv4 d5 ho5 g5
   go_wp2
   go_ret
   refine ⟨_,rfl,NewB.own ?_,uh G6⟩
   rw[uh HQ',← uh HP0,← uh HP3,← uh HP4,← uh HP5]
   exact uh G5
set_option maxHeartbeats 4000000 in
theorem zkf (w:World) (m:MrkL) (ht:m.target.length=32) (ha:m.name.length≤1000000) (hx:m.text.length≤1000000) :
  Calls Tryz.prog 140 #[.int .i64 4,.agg (chC ⟨m.target,[],0,m.name,m.text⟩ none 0).toArray] w fun e w'=>∃ v,e = .returned v∧NewB w w' v (mrkB m)∧w.grownBy w' none:=by
 obtain ⟨tree,author,text⟩:=m
 simp only at ht ha hx ⊢
 obtain ⟨q1,q2,q3,q4⟩:=zjb ⟨tree,[],0,author,text⟩ none 0 ht
 obtain ⟨C,hC⟩:∃ C,C=chC ⟨tree,[],0,author,text⟩ none 0:=⟨_,rfl⟩
 have HQ:Hid (mrkB ⟨tree,author,text⟩=(tree++layS author)++layS text):=rfl
 rw[← hC] at q3 q4 ⊢
 obtain ⟨W0,hW0,hB0,g0⟩:=zah w 156 C
 have c3:W0.cell? ⟨w.heap.size,34,none⟩=some (.string (str author)):=by rw[hB0.cell 34,q3]
 have c4:W0.cell? ⟨w.heap.size,35,none⟩=some (.string (str text)):=by rw[hB0.cell 35,q4]
 have hbT:Bts W0 (some ⟨w.heap.size,0,none⟩) 32 tree:=by
  have h1:=zal hB0
  rw[hC] at h1
  have:=zc7 (zgr h1) (by rw[show (ChgL.tree _).length=32 from ht];unfold maxLen;omega)
  rwa [show (ChgL.tree _).length=32 from ht] at this
 have hsl:=zcb w.heap.size 0
 have ccl:=zf5 W0 w.heap.size 0 32 tree hbT (by omega)
 rw[ht] at ccl
 obtain ⟨HT,HC,HW0,HG0,HC3,HC4⟩:=zh6 ht hC hW0 g0 c3 c4
 clear ht hC c3 c4 hW0 g0 hB0 hbT q1 q2 q3 q4
 go_enter Tryz.func140,Tryz.ntmps140
 go_wp2_with (rw[← uh HW0])
 refine ccl.mono ?_
 rintro e w3 ⟨v3,rfl,ho3,g3⟩
 have G3:=tn (uh HG0) g3
 have d3:=g3.cell (uh HC3) (by simp)
 have d4:=g3.cell (uh HC4) (by simp)
 obtain ⟨P3,hP3⟩:∃ L,L=tree:=⟨_,rfl⟩
 rw[← hP3] at ho3
 have hl3:P3.length≤1010:=by have:=uh HT;rw[hP3];omega
 have HT3:Hid (P3.length=32):=by have:=uh HT;rw[hP3];exact this
 clear ccl hsl
 obtain ⟨he1,ao3,k3,hv3,hb3,he2⟩:=zcf ho3
 subst hv3
 obtain ⟨cap3,V3,hcv3,hx3,gx3⟩:=zdb w3 author (by unfold maxLen;omega)
 have cs3:=zb9 V3 ao3 _ k3 cap3 P3 author (hb3.kept gx3 (fun _ e=>by cases e)) hx3 (by omega)
 obtain ⟨P4,hP4⟩:∃ L,L=P3++layS author:=⟨_,rfl⟩
 rw[← hP4] at cs3
 rw[uh HT3] at cs3
 have hlP4:P4.length≤1002000:=by rw[hP4,List.length_append,zdg];omega
 have HX3:=hide (tn G3 gx3)
 have HP4:=hide hP4
 have d4':=gx3.cell d4 (by simp)
 have HP3:=hide hP3
 clear he1 he2 hb3 hx3 gx3 g3 ho3 d4 hP3 hP4
 go_wp2_with fail
 refine cs3.mono ?_
 rintro e w4 ⟨v4,rfl,ho4,g4⟩
 have G4:=tn (uh HX3) g4
 have d5:=g4.cell d4' (by simp)
 clear cs3 hcv3 d3 d4'
 obtain ⟨he1,ao4,k4,hv4,hb4,he2⟩:=zcf ho4
 subst hv4
 obtain ⟨cap4,V4,hcv4,hx4,gx4⟩:=zdb w4 text (by unfold maxLen;omega)
 have cs4:=zb9 V4 ao4 _ k4 cap4 P4 text (hb4.kept gx4 (fun _ e=>by cases e)) hx4 (by omega)
 obtain ⟨P5,hP5⟩:∃ L,L=P4++layS text:=⟨_,rfl⟩
 rw[← hP5] at cs4
 have hlP5:P5.length≤2003000:=by rw[hP5,List.length_append,zdg];omega
 have HX4:=hide (tn G4 gx4)
 have HP5:=hide hP5
 clear he1 he2 hb4 hx4 gx4 g4 ho4 hP5
 go_wp2_with fail
 refine cs4.mono ?_
 rintro e w5 ⟨v5,rfl,ho5,g5⟩
 have G5:=hide (zb5 ho5 (uh HX4).size)
 have G6:=hide (tn (uh HX4) g5)
 clear cs4 hcv4 d5 ho5 g5
 go_wp2
 go_ret
 refine ⟨_,rfl,NewB.own ?_,uh G6⟩
 rw[uh HQ,← uh HP3,← uh HP4,← uh HP5]
 exact uh G5
end Go.Proofs.YtegbbkgmiklhcaaGreatDoor
