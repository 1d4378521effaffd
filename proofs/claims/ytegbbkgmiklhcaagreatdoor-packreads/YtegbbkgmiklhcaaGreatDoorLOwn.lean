/- Lemmas. -/
import Derived.Test.YtegbbkgmiklhcaaGreatDoorOLink
import Derived.Test.YtegbbkgmiklhcaaGreatDoorRTreeOf
import Derived.Test.YtegbbkgmiklhcaaGreatDoorRChg
namespace Go.Proofs.YtegbbkgmiklhcaaGreatDoor
open Go.RowKit
set_option maxRecDepth 100000
theorem zuw (k:Nat) (hk:k<256) (d m:List UInt8):putL (k:Int) d++m=lb k 1++(layS d++m):=by
 have h1:lb k 1=[UInt8.ofNat k]:=by
  match k with
  | k=>simp[lb]
 have h2:UInt8.ofInt (k:Int)=UInt8.ofNat k:=by
  simp only[UInt8.ofInt]
  congr 1
  omega
 unfold putL
 rw[h1,h2]
 simp
theorem zr0 (es:List EntL) (j:Nat) (hj:j<es.length):((es.take (j+1)).map (·.id)).flatMap (·.map bv)=((es.take j).map (·.id)).flatMap (·.map bv)++es[j].id.map bv:=by
 rw[List.take_succ_eq_append_getElem hj,List.map_append,List.flatMap_append]
 simp only[List.map_cons,List.map_nil,List.flatMap_cons,List.flatMap_nil,List.append_nil]
theorem zr1 (k:Int) (d:List UInt8):(telT k d).2.length≤32:=by
 unfold telT
 split
 ·split
  ·unfold zbo
   simp only[zin]
   exact Nat.min_le_right _ _
  ·exact Nat.zero_le _
 ·exact Nat.zero_le _
set_option maxHeartbeats 4000000 in
theorem zk0 (w:World) (ao:Option Addr) (c:Nat) (d:List UInt8) (hb:Bts w ao c d) (hd:d.length≤16384):Calls Tryz.prog 63 #[.agg #[.int .i64 2,.slice ao d.length c]] w fun e w'=>zdd w w' 2 d e:=by
 obtain ⟨k1,k2,k3⟩:=zur d hd
 obtain ⟨n,hn⟩:∃ n,n=d.length:=⟨_,rfl⟩
 have hd2:¬ (16384:Int)<(n:Int):=by omega
 obtain ⟨W0,hW0,hB0,g0⟩:∃ W1,W1=w.alloc (.cells #[.int .i64 2,.slice ao n c] 42)∧Blk W1 w.heap.size 42 [.int .i64 2,.slice ao n c]∧w.grownBy W1 none:=zag w _ _
 have c0:=hB0.cell 0
 have c1:=hB0.cell 1
 simp only[List.getElem?_cons_zero,List.getElem?_cons_succ] at c0 c1
 have ct:=znd W0 2 ao c d (hb.kept g0 (fun _ e=>by cases e)) (by omega)
 obtain ⟨t,ht⟩:∃ t,t=telT 2 d:=⟨_,rfl⟩
 rw[← ht] at ct k1 k2 k3
 rw[← hn] at ct ⊢
 have hids:∀ e∈t.2,e.id.length=32:=by
  rw[ht]
  unfold telT
  split
  ·split
   ·exact zjl d
   ·intro e he;simp at he
  ·intro e he;simp at he
 have HLN:=hide (show t.2.length≤32 by rw[ht];exact zr1 2 d)
 obtain ⟨Z,hZ,hzv⟩:=zik
 obtain ⟨HW0,HK1,HK2,HK3,HIDS,HZ⟩:=zh6 hW0 k1 k2 k3 hids hZ
 have HG0:=hide g0
 clear k1 k2 k3 hn hW0 hB0 g0 hb hd ht hids hZ
 go_enter Tryz.func63,Tryz.ntmps63
 go_wp2_with (rw[← uh HW0])
 refine ct.mono ?_
 rintro e w1 ⟨v1,y,rfl,hy,ho1,g1⟩
 obtain ⟨eo,ec,hv1⟩:=zcw ho1
 subst hv1
 have hE1:Ens w1 eo ec t.2:=by
  obtain ⟨ao2,c2,e1,e2⟩:=Ens.own ho1 (uh HIDS)
  injection e1 with e3 e4 e5
  subst e3 e5
  exact e2
 have G1:=tn (uh HG0) g1
 obtain ⟨es,hes⟩:∃ es,es=t.2:=⟨_,rfl⟩
 rw[← hes] at hE1
 rw[← hes]
 obtain ⟨m,hm⟩:∃ m,m=es.length:=⟨_,rfl⟩
 rw[← hm]
 have hm9:m≤32:=by rw[hm,hes];exact uh HLN
 obtain ⟨HE,HM,HES,HY,HG1⟩:=zh5 hE1 hm hes hy G1
 clear ct ho1 hE1 g1 hes hm hy c0 c1 G1
 go_wp2
 go_loopw [4,34] (fun v i wr=>∃ j:Nat,i = .int .i64 j∧j≤m∧wr.ownsRow w1.heap.size 47 32 v j (((es.take j).map (·.id)).flatMap (·.map bv))∧w1.grownBy wr none) (fun _ i _=>m - (intOf i).toNat)
 case atStart=>exact ⟨0,rfl,Nat.zero_le _,World.ownsRow_nil _ _ _ _,zaa _ _⟩
 case round =>
  obtain ⟨j,rfl,hj,ho,hg⟩:=hrel
  by_cases hlt:j<m
  ·have hlt' : j<es.length:=by have:=uh HM;omega
   obtain ⟨b,o,hao,hrow⟩:=(uh HE).at j hlt'
   have hr:=zah (hrow j hlt') hg (by simp)
   have hid:=(uh HE).ids _ (List.getElem_mem hlt')
   have hnew:=zr0 es j hlt'
   obtain ⟨E,hEE⟩:∃ E,E=es[j]:=⟨_,rfl⟩
   rw[← hEE] at hr hid hnew
   clear hrow hEE hlt'
   subst hao
   obtain ⟨nm,D,id⟩:=E
   simp only at hid hnew
   obtain ⟨EC,hEC⟩:∃ L,L=enC ⟨nm,D,id⟩:=⟨_,rfl⟩
   have hEl:EC.length=34:=by rw[hEC];exact zfr _ hid
   have hEo:EC.toArray.all (·.oneCell')=true:=by rw[hEC];exact all_oneCell_toArray (zgy _)
   obtain ⟨W,hW,hB,gW⟩:=zb6 wr 154 Z EC
   have hRI:W.rangeAt wr.heap.size 2 (id.map bv):=by
    have:=zas hB
    rw[hEC] at this
    simpa using zuo this
   rw[← hEC] at hr
   obtain ⟨IC,hIC⟩:∃ I,I=id.map bv:=⟨_,rfl⟩
   have hbs:=zkn id hid W
   rw[← hIC] at hRI hbs hnew
   have hIl:IC.length=32:=by rw[hIC,List.length_map,hid]
   have hI1:∀ u∈IC,u.oneCell'=true:=by rw[hIC];exact za6 _
   obtain ⟨W5,hW5,hB5,g5⟩:=zag W 47 IC
   have ho5:=zbw (zbw ho gW (fun x e=>by cases e)) g5 (fun x e=>by cases e)
   have G5:=tn (tn hg gW) g5
   obtain ⟨HW,HW5,HEO,HNW,HRI,HBS⟩:=zh6 hW hW5 hEo hnew hRI hbs
   obtain ⟨HIL,HI1,HB5,HO5,HG5⟩:=zh5 hIl hI1 hB5 ho5 G5
   have hiE:(Tryz.prog.info? 154).map (·.size)=some EC.length:=by rw[hEl];exact zii
   have HIE:=hide hiE
   have hiI:(Tryz.prog.info? 47).map (·.size)=some IC.length:=by rw[hIl];exact zba
   have HII:=hide hiI
   have hZE:Z.size=EC.toArray.size:=by rw[uh HZ];simp[hEl]
   have HZE:=hide hZE
   have hj9:j≤100000:=by omega
   clear hW hB hEC hEo hnew hRI hIC hbs hIl hI1 hW5 hB5 g5 ho5 G5 hiE hiI hZE ho hg gW hid hEl
   go_wp2_with (first
    | (refine wpList_load_mid rfl 154 _ rfl b (o+j*34) rfl EC _ hr Tryz.underlying154 rfl (uh HIE) ?_;clear hr)
    | (refine wpList_store_row rfl 154 _ _ rfl wr.heap.size EC.toArray rfl rfl _ _ (heap_alloc_new _ _) (by simpa using uh HIE) (uh HZE) (uh HEO) ?_;rw[← uh HW])
    | (refine wpList_load_mid rfl 47 _ rfl wr.heap.size 2 rfl IC _ (uh HRI) Tryz.underlying47 rfl (uh HII) ?_)
    | (refine zaw rfl 59 _ rfl (.agg IC.toArray) _ rfl (uh HBS) ?_;rw[← uh HW5])
    | (refine zcz rfl _ _ rfl w1.heap.size _ _ _ rfl (uh HO5) _ IC (uh HB5) (uh HIL) (uh HI1) rfl hj9 (uh HG5).size ?_;intro v6 w6 ho6 g6;have HO6:=hide ho6;have HG6:=hide (zae (uh HG5) g6 (fun x e=>Or.inl ((uh HO5).lt x e).1));clear ho6 g6 HO5 HG5))
   go_roundw
   case rel =>
    refine ⟨j+1,by go_num,by omega,?_,uh HG6⟩
    rw[uh HNW]
    exact uh HO6
   case measure=>simp[intOf];omega
  ·have hjn:j=es.length:=by have:=uh HM;omega
   have hfin:wr.ownsRow w.heap.size 47 32 u4 (es.map (·.id)).length ((es.map (·.id)).flatMap (·.map bv)):=by
    have h1:=zbs ho (uh HG1).size
    rw[hjn,List.take_of_length_le (Nat.le_refl _)] at h1
    rw[List.length_map];exact h1
   have HF:=hide hfin
   have HG:=hide (tn (uh HG1) hg)
   clear hjn hfin ho hg
   rcases (uh HK3) with h0 | ⟨h11,hnil⟩
   ·have hy0:y=0:=by rw[uh HY,h0]
    subst hy0
    have hl:zc1 2 d=es.map (·.id):=by rw[uh HK2 h0,uh HES]
    have hc:zap 2 d=0:=by rw[uh HK1,h0]
    obtain ⟨HLL,HCC⟩:=zh2 hl hc
    clear hl hc h0
    go_wp2
    refine bodyPost_ret (v := .tuple #[u4,.int .i64 0]) (by simp[results,Tryz.results63,go_sem]) rfl ?_
    exact ⟨u4,0,rfl,(uh HCC).symm,by rw[uh HLL];exact uh HF,uh HG⟩
   ·have hy0:y=11:=by rw[uh HY,h11]
    subst hy0
    have hc:zap 2 d=11:=by rw[uh HK1,h11]
    have HCC:=hide hc
    clear hc h11 hnil
    go_wp2
    refine bodyPost_ret (v := .tuple #[.slice none 0 0,.int .i64 11]) (by simp[results,Tryz.results63,go_sem]) rfl ?_
    exact zdd.bad (uh HCC) (by decide) (uh HG)
theorem zjr (V:World) (base:Nat) (IC:List Value) (hb:base≤V.heap.size) (hl:IC.length=32):(V.alloc (.cells IC.toArray 47)).ownsRow base 47 32 (.slice (some ⟨V.heap.size,0,none⟩) 1 1) 1 IC :=
 ⟨by simp[hl],.inr ⟨V.heap.size,1,IC.toArray,rfl,hb,heap_alloc_new V _,Nat.le_refl _,by decide,by simp[hl],by simp[hl,List.take_of_length_le]⟩⟩
set_option maxHeartbeats 4000000 in
theorem zno (w:World) (ao:Option Addr) (c:Nat) (d:List UInt8) (hb:Bts w ao c d) (hd:d.length≤16384):Calls Tryz.prog 63 #[.agg #[.int .i64 3,.slice ao d.length c]] w fun e w'=>zdd w w' 3 d e:=by
 obtain ⟨k1,k2,k3,k4,k5,k6⟩:=zus d hd
 obtain ⟨n,hn⟩:∃ n,n=d.length:=⟨_,rfl⟩
 have hd2:¬ (16384:Int)<(n:Int):=by omega
 obtain ⟨Z,hZ⟩:∃ Z:List Value,Z=chC zfa none 0:=⟨_,rfl⟩
 have hzv:∀ w,(zeroValue 156).run Tryz.prog w = .ok (.agg Z.toArray) w:=fun w=>by rw[hZ];kernel_rfl
 have hZl:Z.length=36:=by rw[hZ];rfl
 obtain ⟨W0,hW0,hB0,g0⟩:∃ W1,W1=w.alloc (.cells #[.int .i64 3,.slice ao n c] 42)∧Blk W1 w.heap.size 42 [.int .i64 3,.slice ao n c]∧w.grownBy W1 none:=zag w _ _
 obtain ⟨W1,hW1,hB1,g1⟩:∃ W1,W1=W0.alloc (.cells Z.toArray 156)∧Blk W1 W0.heap.size 156 Z∧W0.grownBy W1 none:=zag W0 _ _
 have hs0:W0.heap.size=w.heap.size+1:=by rw[hW0];simp
 rw[hs0] at hB1
 have hBo:=hB0.kept g1 (by simp)
 have b0:=hBo.cell 0
 have b1:=hBo.cell 1
 simp only[List.getElem?_cons_zero,List.getElem?_cons_succ] at b0 b1
 have G1:=tn g0 g1
 have ct:=zjn W1 3 ao c d (hb.kept G1 (fun _ e=>by cases e)) (by omega)
 obtain ⟨t,ht⟩:∃ t,t=telC 3 d:=⟨_,rfl⟩
 rw[← ht] at ct k1 k2 k3 k4 k5 k6
 rw[← hn] at ct ⊢
 have hW:W1=(w.alloc (.cells #[.int .i64 3,.slice ao n c] 42)).alloc (.cells Z.toArray 156):=by rw[hW1,hW0]
 obtain ⟨HW1,HK1,HK2,HK3,HK4,HK5⟩:=zh6 hW k1 k2 k3 k4 k5
 obtain ⟨HK6,HB1,HG1,HZL⟩:=zh4 k6 hB1 G1 hZl
 clear k1 k2 k3 k4 k5 k6 hn hW0 hB0 g0 hb hd ht hZ hW1 hW hBo g1 hs0 hB1 G1 hZl
 go_enter Tryz.func63,Tryz.ntmps63
 go_wp2_with (rw[← uh HW1])
 refine ct.mono ?_
 rintro e w2 ⟨po,pc,y,rfl,hy,ho2,g2⟩
 have hBp:=(uh HB1).kept g2 (by simp)
 have G2:=tn (uh HG1) g2
 obtain ⟨C,hC⟩:∃ C,C=chC t.2 po pc:=⟨_,rfl⟩
 rw[← hC]
 have hCl:C.length=36:=by rw[hC];exact zif _ _ _ (uh HK4)
 have hCo:C.toArray.all (·.oneCell')=true:=by rw[hC];exact all_oneCell_toArray (zig _ _ _)
 obtain ⟨w3,hw3⟩:∃ V,V=w2.setRow (w.heap.size+1) C.toArray:=⟨_,rfl⟩
 have hB3:Blk w3 (w.heap.size+1) 156 C:=by rw[hw3];exact hBp.row _
 have G3:w.grownBy w3 none:=by rw[hw3];exact zar G2 _ (Or.inl (Nat.le_succ _))
 have hrT:w3.rangeAt (w.heap.size+1) 0 (t.2.tree.map bv):=by
  have h1:=zas hB3
  rw[hC] at h1
  exact zij h1
 obtain ⟨IC,hIC⟩:∃ I,I=t.2.tree.map bv:=⟨_,rfl⟩
 have hbs:=zkn t.2.tree (uh HK4) w3
 rw[← hIC] at hrT hbs
 have hIl:IC.length=32:=by rw[hIC,List.length_map,uh HK4]
 obtain ⟨W5,hW5,hB5,g5⟩:=zag w3 47 IC
 have ho5:W5.ownsRow w3.heap.size 47 32 (.slice (some ⟨w3.heap.size,0,none⟩) 1 1) 1 IC:=by rw[hW5];exact zjr w3 w3.heap.size IC (Nat.le_refl _) hIl
 have G5:=tn G3 g5
 have hiC:(Tryz.prog.info? 156).map (·.size)=some C.toArray.size:=by rw[show C.toArray.size=36 by simpa using hCl];exact zcg
 have hZC:Z.toArray.size=C.toArray.size:=by have:=uh HZL;simp[this,hCl]
 have hiI:(Tryz.prog.info? 47).map (·.size)=some IC.length:=by rw[hIl];exact zba
 have hcp:W5.cell? ⟨w.heap.size+1,32,none⟩=some (.slice po t.2.pars.length pc):=by
  rw[(hB3.kept g5 (by simp)).cell 32,hC,(zlt _ _ _ (uh HK4)).1]
 have hO3:w3.ownsRow w.heap.size 47 32 (.slice po t.2.pars.length pc) t.2.pars.length (t.2.pars.flatMap (·.map bv)):=by
  rw[hw3];exact zcr (zbs ho2 (uh HG1).size) hBp (by decide) _
 have hP5:Ids W5 po pc t.2.pars:=by
  obtain ⟨ao2,c2,e1,e2⟩:=Ids.own (zbw hO3 g5 (fun x e=>by cases e)) (uh HK5)
  injection e1 with e3 e4 e5
  subst e3 e5
  exact e2
 have hp9:1+t.2.pars.length≤100000:=by have:=uh HK6;omega
 obtain ⟨ps,hps⟩:∃ ps,ps=t.2.pars:=⟨_,rfl⟩
 rw[← hps] at hcp hP5 hp9
 obtain ⟨HPS,HP5,HIC,HZC,HII,HCO⟩:=zh6 hps hP5 hiC hZC hiI hCo
 obtain ⟨HW3,HW5,HBP,HO5,HG5⟩:=zh5 hw3 hW5 hBp ho5 G5
 have HS5:=hide g5.size
 obtain ⟨HIE,HY,HBS⟩:=zh3 hIC hy hbs
 have HS3:=hide G3.size
 clear hiC hZC hiI hCo hw3 hW5 hBp ho5 G5 hIC hy hbs hB5 g5 hIl hCl hC hB3 G3 G2 ct b0 b1 g2 ho2 hO3 hP5 hps
 rcases (uh HK3) with h0 | h11
 ·have hy0:y=0:=by rw[uh HY,h0]
  subst hy0
  have hl:zc1 3 d=t.2.tree::t.2.pars:=uh HK2 h0
  have hc:zap 3 d=0:=by rw[uh HK1,h0]
  obtain ⟨HLL,HCC⟩:=zh2 hl hc
  clear hl hc h0
  go_wp2_with (first
   | (refine wpList_store_row rfl 156 _ _ rfl (w.heap.size+1) C.toArray rfl rfl _ _ (uh HBP) (uh HIC) (uh HZC) (uh HCO) ?_;rw[← uh HW3])
   | (refine wpList_load_mid rfl 47 _ rfl (w.heap.size+1) 0 rfl IC _ hrT Tryz.underlying47 rfl (uh HII) ?_;clear hrT)
   | (refine zaw rfl 59 _ rfl (.agg IC.toArray) _ rfl (uh HBS) ?_;rw[← uh HW5])
   | (refine zdr rfl _ _ rfl w3.heap.size _ _ _ rfl (uh HO5) po pc ps (uh HP5) rfl hp9 (uh HS5) ?_;intro v6 w6 ho6 g6;have HO6:=hide ho6;have HG6:=hide (zae (uh HG5) g6 (fun x e=>Or.inl (Nat.le_trans (uh HS3) ((uh HO5).lt x e).1)));clear ho6 g6))
  refine bodyPost_ret (v := .tuple #[v6,.int .i64 0]) (by simp[results,Tryz.results63,go_sem]) rfl ?_
  refine ⟨v6,0,rfl,(uh HCC).symm,?_,uh HG6⟩
  rw[uh HLL,← uh HPS,List.length_cons,List.flatMap_cons,← uh HIE,Nat.add_comm]
  exact zbs (uh HO6) (uh HS3)
 ·have hy0:y=11:=by rw[uh HY,h11]
  subst hy0
  have hc:zap 3 d=11:=by rw[uh HK1,h11]
  have HCC:=hide hc
  clear hc h11
  go_wp2_with (first
   | (refine wpList_store_row rfl 156 _ _ rfl (w.heap.size+1) C.toArray rfl rfl _ _ (uh HBP) (uh HIC) (uh HZC) (uh HCO) ?_;rw[← uh HW3])
   | (refine wpList_load_mid rfl 47 _ rfl (w.heap.size+1) 0 rfl IC _ hrT Tryz.underlying47 rfl (uh HII) ?_;clear hrT)
   | (refine zaw rfl 59 _ rfl (.agg IC.toArray) _ rfl (uh HBS) ?_;rw[← uh HW5])
   | (refine zdr rfl _ _ rfl w3.heap.size _ _ _ rfl (uh HO5) po pc ps (uh HP5) rfl hp9 (uh HS5) ?_;intro v6 w6 ho6 g6;have HO6:=hide ho6;have HG6:=hide (zae (uh HG5) g6 (fun x e=>Or.inl (Nat.le_trans (uh HS3) ((uh HO5).lt x e).1)));clear ho6 g6))
  refine bodyPost_ret (v := .tuple #[.slice none 0 0,.int .i64 11]) (by simp[results,Tryz.results63,go_sem]) rfl ?_
  exact zdd.bad (uh HCC) (by decide) (uh HG6)
set_option maxHeartbeats 4000000 in
theorem znp (w:World) (ao:Option Addr) (c:Nat) (d:List UInt8) (hb:Bts w ao c d) (hd:d.length≤16384):Calls Tryz.prog 63 #[.agg #[.int .i64 4,.slice ao d.length c]] w fun e w'=>zdd w w' 4 d e:=by
 obtain ⟨k1,k2,k3,k4⟩:=zut d hd
 obtain ⟨n,hn⟩:∃ n,n=d.length:=⟨_,rfl⟩
 have hd2:¬ (16384:Int)<(n:Int):=by omega
 obtain ⟨Z,hZ⟩:∃ Z:List Value,Z=mkC zga:=⟨_,rfl⟩
 have hzv:∀ w,(zeroValue 160).run Tryz.prog w = .ok (.agg Z.toArray) w:=fun w=>by rw[hZ];kernel_rfl
 have hZl:Z.length=34:=by rw[hZ];rfl
 obtain ⟨W0,hW0,hB0,g0⟩:∃ W1,W1=w.alloc (.cells #[.int .i64 4,.slice ao n c] 42)∧Blk W1 w.heap.size 42 [.int .i64 4,.slice ao n c]∧w.grownBy W1 none:=zag w _ _
 obtain ⟨W1,hW1,hB1,g1⟩:∃ W1,W1=W0.alloc (.cells Z.toArray 160)∧Blk W1 W0.heap.size 160 Z∧W0.grownBy W1 none:=zag W0 _ _
 have hs0:W0.heap.size=w.heap.size+1:=by rw[hW0];simp
 rw[hs0] at hB1
 have hBo:=hB0.kept g1 (by simp)
 have b0:=hBo.cell 0
 have b1:=hBo.cell 1
 simp only[List.getElem?_cons_zero,List.getElem?_cons_succ] at b0 b1
 have G1:=tn g0 g1
 have ct:=zne W1 4 ao c d (hb.kept G1 (fun _ e=>by cases e)) (by omega)
 obtain ⟨t,ht⟩:∃ t,t=telM 4 d:=⟨_,rfl⟩
 rw[← ht] at ct k1 k2 k3 k4
 rw[← hn] at ct ⊢
 have hW:W1=(w.alloc (.cells #[.int .i64 4,.slice ao n c] 42)).alloc (.cells Z.toArray 160):=by rw[hW1,hW0]
 obtain ⟨HW1,HK1,HK2,HK3,HK4⟩:=zh5 hW k1 k2 k3 k4
 skip
 obtain ⟨HB1,HG1,HZL⟩:=zh3 hB1 G1 hZl
 clear k1 k2 k3 k4 hn hW0 hB0 g0 hb hd ht hZ hW1 hW hBo g1 hs0 hB1 G1 hZl
 go_enter Tryz.func63,Tryz.ntmps63
 go_wp2_with (rw[← uh HW1])
 refine ct.mono ?_
 rintro e w2 ⟨y,rfl,hy,g2⟩
 have hBp:=(uh HB1).kept g2 (by simp)
 have G2:=tn (uh HG1) g2
 obtain ⟨C,hC⟩:∃ C,C=mkC t.2:=⟨_,rfl⟩
 rw[← hC]
 have hCl:C.length=34:=by rw[hC];exact zki _ (uh HK4)
 have hCo:C.toArray.all (·.oneCell')=true:=by rw[hC];exact all_oneCell_toArray (zih _)
 obtain ⟨w3,hw3⟩:∃ V,V=w2.setRow (w.heap.size+1) C.toArray:=⟨_,rfl⟩
 have hB3:Blk w3 (w.heap.size+1) 160 C:=by rw[hw3];exact hBp.row _
 have G3:w.grownBy w3 none:=by rw[hw3];exact zar G2 _ (Or.inl (Nat.le_succ _))
 have hrT:w3.rangeAt (w.heap.size+1) 0 (t.2.target.map bv):=by
  have h1:=zas hB3
  rw[hC] at h1
  exact zjf h1
 obtain ⟨IC,hIC⟩:∃ I,I=t.2.target.map bv:=⟨_,rfl⟩
 have hbs:=zkn t.2.target (uh HK4) w3
 rw[← hIC] at hrT hbs
 have hIl:IC.length=32:=by rw[hIC,List.length_map,uh HK4]
 obtain ⟨W5,hW5,hB5,g5⟩:=zag w3 47 IC
 have ho5:W5.ownsRow w3.heap.size 47 32 (.slice (some ⟨w3.heap.size,0,none⟩) 1 1) 1 IC:=by rw[hW5];exact zjr w3 w3.heap.size IC (Nat.le_refl _) hIl
 have G5:=tn G3 g5
 have hiC:(Tryz.prog.info? 160).map (·.size)=some C.toArray.size:=by rw[show C.toArray.size=34 by simpa using hCl];exact zgk
 have hZC:Z.toArray.size=C.toArray.size:=by have:=uh HZL;simp[this,hCl]
 have hiI:(Tryz.prog.info? 47).map (·.size)=some IC.length:=by rw[hIl];exact zba
 skip
 obtain ⟨HIC,HZC,HII,HCO,HW3,HW5⟩:=zh6 hiC hZC hiI hCo hw3 hW5
 obtain ⟨HBP,HO5,HG5⟩:=zh3 hBp ho5 G5
 have HS5:=hide g5.size
 obtain ⟨HIE,HY,HBS⟩:=zh3 hIC hy hbs
 have HS3:=hide G3.size
 clear hiC hZC hiI hCo hw3 hW5 hBp ho5 G5 hIC hy hbs hB5 g5 hIl hCl hC hB3 G3 G2 ct b0 b1 g2 
 rcases (uh HK3) with h0 | h11
 ·have hy0:y=0:=by rw[uh HY,h0]
  subst hy0
  have hl:zc1 4 d=[t.2.target]:=uh HK2 h0
  have hc:zap 4 d=0:=by rw[uh HK1,h0]
  obtain ⟨HLL,HCC⟩:=zh2 hl hc
  clear hl hc h0
  go_wp2_with (first
   | (refine wpList_store_row rfl 160 _ _ rfl (w.heap.size+1) C.toArray rfl rfl _ _ (uh HBP) (uh HIC) (uh HZC) (uh HCO) ?_;rw[← uh HW3])
   | (refine wpList_load_mid rfl 47 _ rfl (w.heap.size+1) 0 rfl IC _ hrT Tryz.underlying47 rfl (uh HII) ?_;clear hrT)
   | (refine zaw rfl 59 _ rfl (.agg IC.toArray) _ rfl (uh HBS) ?_;rw[← uh HW5]))
  refine bodyPost_ret (v := .tuple #[.slice (some ⟨w3.heap.size,0,none⟩) 1 1,.int .i64 0]) (by simp[results,Tryz.results63,go_sem]) rfl ?_
  refine ⟨_,0,rfl,(uh HCC).symm,?_,uh HG5⟩
  rw[uh HLL]
  simp only[List.length_cons,List.length_nil,List.flatMap_cons,List.flatMap_nil,List.append_nil,Nat.zero_add]
  rw[← uh HIE]
  exact zbs (uh HO5) (uh HS3)
 ·have hy0:y=11:=by rw[uh HY,h11]
  subst hy0
  have hc:zap 4 d=11:=by rw[uh HK1,h11]
  have HCC:=hide hc
  clear hc h11
  go_wp2_with (first
   | (refine wpList_store_row rfl 160 _ _ rfl (w.heap.size+1) C.toArray rfl rfl _ _ (uh HBP) (uh HIC) (uh HZC) (uh HCO) ?_;rw[← uh HW3])
   | (refine wpList_load_mid rfl 47 _ rfl (w.heap.size+1) 0 rfl IC _ hrT Tryz.underlying47 rfl (uh HII) ?_;clear hrT)
   | (refine zaw rfl 59 _ rfl (.agg IC.toArray) _ rfl (uh HBS) ?_;rw[← uh HW5]))
  refine bodyPost_ret (v := .tuple #[.slice none 0 0,.int .i64 11]) (by simp[results,Tryz.results63,go_sem]) rfl ?_
  exact zdd.bad (uh HCC) (by decide) (uh HG5)
theorem znq (w:World) (k:Int) (ao:Option Addr) (c:Nat) (d:List UInt8) (hb:Bts w ao c d):Calls Tryz.prog 63 #[.agg #[.int .i64 k,.slice ao d.length c]] w fun e w'=>zdd w w' k d e:=by
 by_cases hk:k<1∨4<k
 ·exact znf w k hk ao c d
 ·by_cases hd:16384<d.length
  ·exact zng w k (by omega) (by omega) ao c d hd
  ·have h5:k=1∨k=2∨k=3∨k=4:=by omega
   rcases h5 with rfl | rfl | rfl | rfl
   ·exact zkw w ao c d (by omega)
   ·exact zk0 w ao c d hb (by omega)
   ·exact zno w ao c d hb (by omega)
   ·exact znp w ao c d hb (by omega)
theorem zg7 (w:World) (k:Int) (ao:Option Addr) (c:Nat) (d:List UInt8) (hb:Bts w ao c d):Calls Tryz.prog 40 #[.agg #[.int .i64 k,.slice ao d.length c]] w fun e w'=>e = .returned (.int .i64 (zap k d))∧w.grownBy w' none:=by
 obtain ⟨n,hn⟩:∃ n,n=d.length:=⟨_,rfl⟩
 have g0:w.grownBy (w.alloc (.cells #[.int .i64 k,.slice ao n c] 42)) none:=zad (zaa _ _) _
 have cl:=znq (w.alloc (.cells #[.int .i64 k,.slice ao n c] 42)) k ao c d (hb.kept g0 (fun _ e=>by cases e))
 rw[← hn] at cl ⊢
 obtain ⟨Y,hY⟩:∃ y,y=zap k d:=⟨_,rfl⟩
 rw[← hY]
 have HY:=hide hY
 clear hn hb hY
 go_enter Tryz.func40,Tryz.ntmps40
 go_wp2_with fail
 refine cl.mono ?_
 rintro e w2 ⟨v,y,rfl,hy,_,g2⟩
 rw[hy,← uh HY]
 clear hy cl
 go_wp2
 go_ret
 exact ⟨rfl,tn g0 g2⟩
theorem zk1 (w:World) (x:UInt8):∃ W,W=w.alloc (.cells #[.int .u8 ((x.toNat:Nat):Int)] 5)∧Bts W (some ⟨w.heap.size,0,none⟩) 1 [x]∧w.grownBy W none :=
 ⟨_,rfl,zdq (l:=[x]) (zas (Blk.new w 5 [bv x])) (by show 1≤maxLen;decide),zad (zaa _ _) _⟩
theorem zpj (k:Int):IntKind.u8.wrap k=(((UInt8.ofInt k).toNat:Nat):Int):=by
 rw[IntKind.wrap_u8]
 unfold UInt8.ofInt
 rw[UInt8.toNat_ofNat']
 omega
theorem zl7 (w:World) (k:Int) (ao:Option Addr) (c:Nat) (d:List UInt8) (hb:Bts w ao c d) (hd:d.length≤35184372088832):Calls Tryz.prog 24 #[.agg #[.int .i64 k,.slice ao d.length c]] w fun e w'=>∃ v,e = .returned v∧NewB w w' v (putL k d)∧w.grownBy w' none:=by
 obtain ⟨n,hn⟩:∃ n,n=d.length:=⟨_,rfl⟩
 obtain ⟨W0,hW0,hB0,g0⟩:∃ W1,W1=w.alloc (.cells #[.int .i64 k,.slice ao n c] 42)∧Blk W1 w.heap.size 42 [.int .i64 k,.slice ao n c]∧w.grownBy W1 none:=zag w _ _
 obtain ⟨W1,hW1,hb1,g1⟩:=zk1 W0 (UInt8.ofInt k)
 have hcv:=zpj k
 have cs:=zmm W1 _ ao 1 c [UInt8.ofInt k] d hb1 (hb.kept (tn g0 g1) (fun _ e=>by cases e)) (by simp;omega)
 rw[show (([UInt8.ofInt k]:List UInt8)).length=1 from rfl,← hn] at cs
 rw[← hn]
 have hput:putL k d=[UInt8.ofInt k]++layS d:=rfl
 rw[← hput] at cs
 obtain ⟨P,hP⟩:∃ P,P=putL k d:=⟨_,rfl⟩
 rw[← hP] at cs ⊢
 obtain ⟨z,hz⟩:∃ z:Int,z=(((UInt8.ofInt k).toNat:Nat):Int):=⟨_,rfl⟩
 rw[← hz] at hcv hW1
 have hs0:W0.heap.size=w.heap.size+1:=by rw[hW0];simp
 rw[hs0] at cs
 have hW:W1=(w.alloc (.cells #[.int .i64 k,.slice ao n c] 42)).alloc (.cells #[.int .u8 z] 5):=by rw[hW1,hW0]
 have c1:=(hB0.kept g1 (by simp)).cell 1
 simp only[List.getElem?_cons_zero,List.getElem?_cons_succ] at c1
 have HW:=hide hW
 have G1:=tn g0 g1
 clear hW hW1 hW0 hz hP hput hb hb1 hB0 g0 g1 hs0 hd hn
 go_enter Tryz.func24,Tryz.ntmps24
 go_wp2_with (rw[← uh HW])
 refine cs.mono ?_
 rintro e w2 ⟨v2,rfl,hN2,g2⟩
 have HN:=hide hN2
 clear cs hN2 c1
 go_wp2
 go_ret
 exact ⟨_,rfl,NewB.later (uh HN) G1.size,tn G1 g2⟩
def rdL (b:List UInt8):Int × Int × List UInt8 :=
 let a:=numS b 0 1
 let s:=zal a.2.1 a.2.2
 if zb4 s.2.1 s.2.2=0∧zap (a.1:Int) s.1=0 then (0,(a.1:Int),s.1) else (11,0,[])
theorem zr2 (l:List UInt8) (k:Int):(numS l k 1).1<256:=by
 have hnb:nb 1=1:=by decide
 unfold numS
 rw[hnb]
 repeat' split
 ·simp
 ·have h1:=zi3 (l.take 1)
  have h2:256 ^ (l.take 1).length≤256 ^ 1:=Nat.pow_le_pow_right (by omega) (by simp;omega)
  simp only
  omega
 ·simp
set_option maxHeartbeats 2000000 in
theorem zpk (w:World) (ao:Option Addr) (c:Nat) (b:List UInt8) (hb:Bts w ao c b) (hl:b.length≤100000):Calls Tryz.prog 20 #[.slice ao b.length c] w fun e w'=>∃ v y kk,e = .returned (.tuple #[.agg #[.int .i64 kk,v],.int .i64 y])∧y=(rdL b).1∧kk=(rdL b).2.1∧NewB w w' v (rdL b).2.2∧w.grownBy w' none:=by
 obtain ⟨n,hn⟩:∃ n,n=b.length:=⟨_,rfl⟩
 obtain ⟨W0,hW0,hB0,g0⟩:∃ W1,W1=w.alloc (.cells #[.int .i64 0,.slice none 0 0] 42)∧Blk W1 w.heap.size 42 [.int .i64 0,.slice none 0 0]∧w.grownBy W1 none:=zag w _ _
 have cn:=zgt W0 ao c b (hb.kept g0 (fun _ e=>by cases e)) (by omega)
 rw[← hn] at cn ⊢
 have hR:rdL b=(if zb4 (zal (numS b 0 1).2.1 (numS b 0 1).2.2).2.1 (zal (numS b 0 1).2.1 (numS b 0 1).2.2).2.2=0∧zap ((numS b 0 1).1:Int) (zal (numS b 0 1).2.1 (numS b 0 1).2.2).1=0 then (0,((numS b 0 1).1:Int),(zal (numS b 0 1).2.1 (numS b 0 1).2.2).1) else (11,0,[])):=rfl
 have hv256:=zr2 b 0
 have hl1:=za9 b 0 1
 obtain ⟨⟨v1,l1,e1⟩,h1⟩:∃ a,numS b 0 1=a:=⟨_,rfl⟩
 rw[h1] at hR hv256 hl1
 simp only at hR hv256 hl1
 have hdl:=zbz l1 e1
 obtain ⟨⟨x,l2,e2⟩,h2⟩:∃ a,zal l1 e1=a:=⟨_,rfl⟩
 rw[h2] at hR hdl
 simp only at hR hdl
 obtain ⟨r,hr⟩:∃ r,r=rdL b:=⟨_,rfl⟩
 rw[← hr] at hR ⊢
 have hcv:IntKind.i64.wrap ((v1:Nat):Int)=((v1:Nat):Int):=by rw[IntKind.wrap_i64];omega
 obtain ⟨HW0,HB0,HG0,H1,H2,HR⟩:=zh6 hW0 hB0 g0 h1 h2 hR
 have hl1a:l1.length≤100000:=by omega
 have hxl:x.length≤100000:=by omega
 clear hn hb hl hW0 hB0 g0 h1 h2 hr hR hl1 hdl
 go_enter Tryz.func20,Tryz.ntmps20
 go_wp2_with (rw[← uh HW0])
 refine cn.mono ?_
 rintro e w1 ⟨rb,rfl,hrb,hRd,g1⟩
 have hws:w.heap.size<W0.heap.size:=(uh HB0).lt
 have hB1:=(uh HB0).kept g1 (by simp)
 have G1:=tn (uh HG0) g1
 have c1:=zd8 w1 rb b 0 1 hRd
 rw[uh H1] at c1
 simp only at c1
 clear cn hRd g1
 go_wp2_with fail
 refine c1.mono ?_
 rintro e w2 ⟨rfl,hR2,g2⟩
 have hB2:=hB1.kept g2 (by simp;omega)
 have G2:w.grownBy w2 none:=zae G1 g2 (fun y e=>by cases e;exact Or.inl (by omega))
 have c2:=zct w2 rb l1 e1 (by omega) hR2
 rw[uh H2] at c2
 simp only at c2
 clear c1 hB1 G1 hR2 g2
 go_wp2_with fail
 refine c2.mono ?_
 rintro e w3 ⟨v3,rfl,hN3,hR3,g3⟩
 have hB3:=hB2.kept g3 (by simp;omega)
 have G3:w.grownBy w3 none:=zae G2 g3 (fun y e=>by cases e;exact Or.inl (by omega))
 have hN3':=NewB.later hN3 G2.size
 obtain ⟨a3,k3,hv3,hb3,hn3⟩:=hN3'
 subst hv3
 obtain ⟨m,hm⟩:∃ m,m=x.length:=⟨_,rfl⟩
 rw[← hm]
 obtain ⟨W4,hW4,hO4,g4⟩:∃ W1,W1=w3.alloc (.cells #[.int .i64 (v1:Int),.slice a3 m k3] 42)∧Blk W1 w3.heap.size 42 [.int .i64 (v1:Int),.slice a3 m k3]∧w3.grownBy W1 none:=zag w3 _ _
 have G4:=tn G3 g4
 have hR4:=hR3.kept g4 (Or.inl rfl)
 have hB4:=hB3.kept g4 (by simp)
 have hb4:=hb3.kept g4 (fun _ e=>by cases e)
 have cd:=zke W4 rb l2 e2 hR4
 have cc:=zg7 W4 (v1:Int) a3 k3 x hb4
 rw[← hm] at cc
 have d0:=hO4.cell 0
 have d1:=hO4.cell 1
 simp only[List.getElem?_cons_zero,List.getElem?_cons_succ] at d0 d1
 obtain ⟨HW4,HB4⟩:=zh2 hW4 hB4
 have HN4:Hid (NewB w W4 (.slice a3 m k3) x):=hide ⟨a3,k3,by rw[hm],hb4,fun ad e=>⟨(hn3 ad e).1,(hn3 ad e).2.kept g4 (by simp)⟩⟩
 obtain ⟨HO4,HG4⟩:=zh2 hO4 G4
 obtain ⟨D,hD⟩:∃ D,D=zb4 l2 e2:=⟨_,rfl⟩
 rw[← hD] at cd
 obtain ⟨C,hC⟩:∃ C,C=zap (v1:Int) x:=⟨_,rfl⟩
 rw[← hC] at cc
 have hR5:r=(if D=0∧C=0 then (0,(v1:Int),x) else (11,0,[])):=by rw[hD,hC];exact uh HR
 have HR5:=hide hR5
 clear c2 hB2 G2 hN3 hR3 g3 hB3 G3 hb3 hn3 hm hW4 hO4 g4 hR4 hB4 hb4 hD hC hR5 HR H1 H2 G4
 by_cases hD0:D=0
 ·subst hD0
  by_cases hC0:C=0
  ·subst hC0
   have hres:r=(0,(v1:Int),x):=by have:=uh HR5;rw[if_pos ⟨rfl,rfl⟩] at this;exact this
   have HRS:=hide hres
   clear hres HR5
   go_wp2_with (first
    | (rw[← uh HW4];go_at_call 39;refine cd.mono ?_;rintro e w5 ⟨rfl,hw5⟩;subst w5;clear cd)
    | (go_at_call 40;refine cc.mono ?_;rintro e w6 ⟨rfl,g6⟩;have HO6:=(uh HO4).kept g6 (by simp);have HB6:=(uh HB4).kept g6 (by simp);have e0:=HO6.cell 0;have e1:=HO6.cell 1;have f0:=HB6.cell 0;have f1:=HB6.cell 1;have z0:=HB6.fz 0;have z1:=HB6.fz 1;simp only[List.getElem?_cons_zero,List.getElem?_cons_succ] at e0 e1 f0 f1;clear cc))
   refine bodyPost_ret (zaf rfl _ _ _ _ _ _ _ rfl ((HB6.set 0 (.int .i64 (v1:Int))).set 1 (.slice a3 m k3)) Tryz.underlying42 rfl zax) rfl ?_
   rw[uh HRS]
   refine ⟨_,_,_,rfl,rfl,rfl,?_,zab (zab (tn (uh HG4) g6) _ _ (Or.inl (Nat.le_refl _))) _ _ (Or.inl (Nat.le_refl _))⟩
   obtain ⟨a',c',q1,q2,q3⟩:=uh HN4
   have gs:w6.grownBy ((w6.setCell ⟨w.heap.size,0,none⟩ (.int .i64 (v1:Int))).setCell ⟨w.heap.size,1,none⟩ (.slice a3 m k3)) (some w.heap.size):=zab (zd4 w6 w.heap.size 0 _) _ _ (Or.inr rfl)
   refine ⟨a',c',q1,(q2.kept g6 (fun _ e=>by cases e)).kept gs ?_,fun ad e=>⟨(q3 ad e).1,((q3 ad e).2.kept g6 (by simp)).kept gs ?_⟩⟩
   ·intro y e ad e5 e4
    cases e
    exact HB6.typ (by decide) (e4 ▸ (q3 ad e5).2.kept g6 (by simp))
   ·intro e4
    have e5:=Option.some.inj e4
    exact HB6.typ (by decide) (e5 ▸ (q3 ad e).2.kept g6 (by simp))
  ·have hC1:(C == 0)=false:=by simpa using hC0
   have hres:r=(11,0,[]):=by have:=uh HR5;rw[if_neg (fun h=>hC0 h.2)] at this;exact this
   have HRS:=hide hres
   clear hres HR5
   go_wp2_with (first
    | (rw[← uh HW4];go_at_call 39;refine cd.mono ?_;rintro e w5 ⟨rfl,hw5⟩;subst w5;clear cd)
    | (go_at_call 40;refine cc.mono ?_;rintro e w6 ⟨rfl,g6⟩;have HO6:=(uh HO4).kept g6 (by simp);have HB6:=(uh HB4).kept g6 (by simp);have e0:=HO6.cell 0;have e1:=HO6.cell 1;have f0:=HB6.cell 0;have f1:=HB6.cell 1;have z0:=HB6.fz 0;have z1:=HB6.fz 1;simp only[List.getElem?_cons_zero,List.getElem?_cons_succ] at e0 e1 f0 f1;clear cc))
   refine bodyPost_ret (zaf rfl _ _ _ _ _ _ _ rfl ((HB6.set 0 (.int .i64 0)).set 1 (.slice none 0 0)) Tryz.underlying42 rfl zax) rfl ?_
   rw[uh HRS]
   exact ⟨_,_,_,rfl,rfl,rfl,NewB.nil _ _,zab (zab (tn (uh HG4) g6) _ _ (Or.inl (Nat.le_refl _))) _ _ (Or.inl (Nat.le_refl _))⟩
 ·have hD1:(D == 0)=false:=by simpa using hD0
  have hres:r=(11,0,[]):=by have:=uh HR5;rw[if_neg (fun h=>hD0 h.1)] at this;exact this
  have HRS:=hide hres
  have hBF:=uh HB4
  have f0:=hBF.cell 0
  have f1:=hBF.cell 1
  have z0:=hBF.fz 0
  have z1:=hBF.fz 1
  simp only[List.getElem?_cons_zero,List.getElem?_cons_succ] at f0 f1
  clear hres HR5 cc
  go_wp2_with (rw[← uh HW4];go_at_call 39;refine cd.mono ?_;rintro e w5 ⟨rfl,hw5⟩;subst w5;clear cd)
  refine bodyPost_ret (zaf rfl _ _ _ _ _ _ _ rfl ((hBF.set 0 (.int .i64 0)).set 1 (.slice none 0 0)) Tryz.underlying42 rfl zax) rfl ?_
  rw[uh HRS]
  exact ⟨_,_,_,rfl,rfl,rfl,NewB.nil _ _,zab (zab (uh HG4) _ _ (Or.inl (Nat.le_refl _))) _ _ (Or.inl (Nat.le_refl _))⟩
theorem zg8 {P:Program} {ops:Array Oper} {S:World→Prop} {op:Oper} {a:Act} (hw:Region.wanted op (yielded ops a.tmps)=true) (t t' : TypeId) (x y:Operand) (ho:op.op = .binOp .neq t x y t') (X Z:Array Value) (r:Bool)
  (hx:a.eval x = .agg X) (hy:a.eval y = .agg Z) (hm:P.eqGuardType P.depth t=false) (hq:∀ w:World,(binOp .neq t (.agg X) (.agg Z)).run P w = .ok (.bool r) w):YieldsIf P ops S op (.bool r) a :=
 .inl ⟨hw,fun w _=>by
  unfold execOp
  simp only[ho,hx,hy,Sem.run_bind,run_eqGuard_agg w .neq t x y X Z hm,hq,Result.andThen_ok]
  rfl⟩
theorem zpl (w:World) (k:Int) (d:List UInt8) (hd:d.length≤100000):Calls Tryz.prog 28 #[.agg #[.int .i64 k,.string (str d)]] w fun e w'=>e = .returned (.string (str (putL k d)))∧w.grownBy w' none:=by
 obtain ⟨SD,hSD⟩:∃ S,S=str d:=⟨_,rfl⟩
 obtain ⟨W0,hW0,hB0,g0⟩:∃ W1,W1=w.alloc (.cells #[.int .i64 k,.string SD] 44)∧Blk W1 w.heap.size 44 [.int .i64 k,.string SD]∧w.grownBy W1 none:=zag w _ _
 obtain ⟨W1,hW1,hb1,g1⟩:=zk1 W0 (UInt8.ofInt k)
 have hcv:=zpj k
 have hc2:=zat hb1
 have cs:=zc8 W1 [UInt8.ofInt k] d (by simp;omega)
 have hput:putL k d=[UInt8.ofInt k]++layS d:=rfl
 rw[← hput] at cs
 have hs0:W0.heap.size=w.heap.size+1:=by rw[hW0];simp
 rw[hs0,show ([UInt8.ofInt k]:List UInt8).length=1 from rfl] at hc2
 obtain ⟨TB,hTB⟩:∃ T,T=str [UInt8.ofInt k]:=⟨_,rfl⟩
 obtain ⟨TP,hTP⟩:∃ T,T=str (putL k d):=⟨_,rfl⟩
 rw[← hTB] at hc2 cs
 rw[← hTP] at cs
 rw[← hSD] at cs
 rw[← hTP,← hSD]
 obtain ⟨z,hz⟩:∃ z:Int,z=(((UInt8.ofInt k).toNat:Nat):Int):=⟨_,rfl⟩
 rw[← hz] at hcv hW1
 have hW:W1=(w.alloc (.cells #[.int .i64 k,.string SD] 44)).alloc (.cells #[.int .u8 z] 5):=by rw[hW1,hW0]
 have c1:=(hB0.kept g1 (by simp)).cell 1
 simp only[List.getElem?_cons_zero,List.getElem?_cons_succ] at c1
 have HW:=hide hW
 have G1:=tn g0 g1
 clear hW hW1 hW0 hz hTB hTP hSD hput hb1 hB0 g0 g1 hs0 hd
 go_enter Tryz.func28,Tryz.ntmps28
 go_wp2_with (rw[← uh HW])
 refine cs.mono ?_
 rintro e w2 ⟨rfl,g2⟩
 clear cs c1 hc2
 go_wp2
 go_ret
 exact ⟨rfl,tn G1 g2⟩
theorem zr3 (w:World) (k:Int) (ao:Option Addr) (c:Nat) (d:List UInt8) (hb:Bts w ao c d):Calls Tryz.prog 16 #[.agg #[.int .i64 k,.slice ao d.length c]] w fun e w'=>e = .returned (.agg #[.int .i64 k,.string (str d)])∧w.grownBy w' none:=by
 obtain ⟨n,hn⟩:∃ n,n=d.length:=⟨_,rfl⟩
 obtain ⟨S0,hS0⟩:∃ S,S=str []:=⟨_,rfl⟩
 have hzv:=zfd
 rw[← hS0] at hzv
 obtain ⟨W1,hW1⟩:∃ W,W=(w.alloc (.cells #[.int .i64 k,.slice ao n c] 42)).alloc (.cells #[.int .i64 0,.string S0] 44):=⟨_,rfl⟩
 have G1:w.grownBy W1 none:=by rw[hW1];exact zad (zad (zaa _ _) _) _
 have hcv:=zat (hb.kept G1 (fun _ e=>by cases e))
 rw[← hn] at hcv ⊢
 rw[hW1] at hcv
 obtain ⟨SS,hSS⟩:∃ S,S=str d:=⟨_,rfl⟩
 rw[← hSS] at hcv ⊢
 clear hSS hn hb G1 hW1 W1 hS0
 go_enter Tryz.func16,Tryz.ntmps16
 go_wp2
 exact bodyPost_ret (v := .agg #[.int .i64 k,.string SS]) (by simp[results,Tryz.results16,go_sem]) rfl ⟨rfl,zad (zad (zaa _ _) _) _⟩
end Go.Proofs.YtegbbkgmiklhcaaGreatDoor
