/- Lemmas. -/
import Derived.Test.YtegbbkgmiklhcaaGreatDoorOLink
namespace Go.Proofs.YtegbbkgmiklhcaaGreatDoor
open Go.RowKit
set_option maxRecDepth 100000
theorem zn3 (es:List EntL) (j:Nat) (hj:j<es.length):((es.take (j+1)).map (·.id)).flatMap (·.map bv)=((es.take j).map (·.id)).flatMap (·.map bv)++es[j].id.map bv:=by
 rw[List.take_succ_eq_append_getElem hj,List.map_append,List.flatMap_append]
 simp only[List.map_cons,List.map_nil,List.flatMap_cons,List.flatMap_nil,List.append_nil]
theorem zn4 (k:Int) (d:List UInt8):(telT k d).2.length≤32:=by
 unfold telT
 split
 ·split
  ·unfold zb6
   simp only[zgv]
   exact Nat.min_le_right _ _
  ·exact Nat.zero_le _
 ·exact Nat.zero_le _
set_option maxHeartbeats 4000000 in
theorem zir (w:World) (ao:Option Addr) (c:Nat) (d:List UInt8) (hb:Bts w ao c d) (hd:d.length≤16384):Calls Tryz.prog 63 #[.agg #[.int .i64 2,.slice ao d.length c]] w fun e w'=>zcc w w' 2 d e:=by
 obtain ⟨k1,k2,k3⟩:=zqm d hd
 obtain ⟨n,hn⟩:∃ n,n=d.length:=⟨_,rfl⟩
 have hd2:¬ (16384:Int)<(n:Int):=by omega
 obtain ⟨W0,hW0,hB0,g0⟩:∃ W1,W1=w.alloc (.cells #[.int .i64 2,.slice ao n c] 42)∧Blk W1 w.heap.size 42 [.int .i64 2,.slice ao n c]∧w.grownBy W1 none:=zah w _ _
 have c0:=hB0.cell 0
 have c1:=hB0.cell 1
 simp only[List.getElem?_cons_zero,List.getElem?_cons_succ] at c0 c1
 have ct:=zkq W0 2 ao c d (hb.kept g0 (fun _ e=>by cases e)) (by omega)
 obtain ⟨t,ht⟩:∃ t,t=telT 2 d:=⟨_,rfl⟩
 rw[← ht] at ct k1 k2 k3
 rw[← hn] at ct ⊢
 have hids:∀ e∈t.2,e.id.length=32:=by
  rw[ht]
  unfold telT
  split
  ·split
   ·exact zhk d
   ·intro e he;simp at he
  ·intro e he;simp at he
 have HLN:=hide (show t.2.length≤32 by rw[ht];exact zn4 2 d)
 obtain ⟨Z,hZ,hzv⟩:=zgs
 obtain ⟨HW0,HK1,HK2,HK3,HIDS,HZ⟩:=zh6 hW0 k1 k2 k3 hids hZ
 have HG0:=hide g0
 clear k1 k2 k3 hn hW0 hB0 g0 hb hd ht hids hZ
 go_enter Tryz.func63,Tryz.ntmps63
 go_wp2_with (rw[← uh HW0])
 refine ct.mono ?_
 rintro e w1 ⟨v1,y,rfl,hy,ho1,g1⟩
 obtain ⟨eo,ec,hv1⟩:=zb3 ho1
 subst hv1
 have hE1:Ens w1 eo ec t.2:=by
  obtain ⟨ao2,c2,e1,e2⟩:=Ens.own ho1 (uh HIDS)
  injection e1 with e3 e4 e5
  subst e3 e5
  exact e2
 have G1:=tn (uh HG0) g1
 obtain ⟨es,hes⟩:∃ es,es=t.2:=⟨_,rfl⟩
 rw[← hes] at hE1
 rw[← hes]
 obtain ⟨m,hm⟩:∃ m,m=es.length:=⟨_,rfl⟩
 rw[← hm]
 have hm9:m≤32:=by rw[hm,hes];exact uh HLN
 obtain ⟨HE,HM,HES,HY,HG1⟩:=zh5 hE1 hm hes hy G1
 clear ct ho1 hE1 g1 hes hm hy c0 c1 G1
 go_wp2
 go_loopw [4,34] (fun v i wr=>∃ j:Nat,i = .int .i64 j∧j≤m∧wr.ownsRow w1.heap.size 47 32 v j (((es.take j).map (·.id)).flatMap (·.map bv))∧w1.grownBy wr none) (fun _ i _=>m - (intOf i).toNat)
 case atStart=>exact ⟨0,rfl,Nat.zero_le _,World.ownsRow_nil _ _ _ _,zab _ _⟩
 case round =>
  obtain ⟨j,rfl,hj,ho,hg⟩:=hrel
  by_cases hlt:j<m
  ·have hlt' : j<es.length:=by have:=uh HM;omega
   obtain ⟨b,o,hao,hrow⟩:=(uh HE).at j hlt'
   have hr:=zad (hrow j hlt') hg (by simp)
   have hid:=(uh HE).ids _ (List.getElem_mem hlt')
   have hnew:=zn3 es j hlt'
   obtain ⟨E,hEE⟩:∃ E,E=es[j]:=⟨_,rfl⟩
   rw[← hEE] at hr hid hnew
   clear hrow hEE hlt'
   subst hao
   obtain ⟨nm,D,id⟩:=E
   simp only at hid hnew
   obtain ⟨EC,hEC⟩:∃ L,L=enC ⟨nm,D,id⟩:=⟨_,rfl⟩
   have hEl:EC.length=34:=by rw[hEC];exact zeb _ hid
   have hEo:EC.toArray.all (·.oneCell')=true:=by rw[hEC];exact all_oneCell_toArray (zff _)
   obtain ⟨W,hW,hB,gW⟩:=zbg wr 154 Z EC
   have hRI:W.rangeAt wr.heap.size 2 (id.map bv):=by
    have:=zal hB
    rw[hEC] at this
    simpa using zqj this
   rw[← hEC] at hr
   obtain ⟨IC,hIC⟩:∃ I,I=id.map bv:=⟨_,rfl⟩
   have hbs:=zif id hid W
   rw[← hIC] at hRI hbs hnew
   have hIl:IC.length=32:=by rw[hIC,List.length_map,hid]
   have hI1:∀ u∈IC,u.oneCell'=true:=by rw[hIC];exact zaw _
   obtain ⟨W5,hW5,hB5,g5⟩:=zah W 47 IC
   have ho5:=za8 (za8 ho gW (fun x e=>by cases e)) g5 (fun x e=>by cases e)
   have G5:=tn (tn hg gW) g5
   obtain ⟨HW,HW5,HEO,HNW,HRI,HBS⟩:=zh6 hW hW5 hEo hnew hRI hbs
   obtain ⟨HIL,HI1,HB5,HO5,HG5⟩:=zh5 hIl hI1 hB5 ho5 G5
   have hiE:(Tryz.prog.info? 154).map (·.size)=some EC.length:=by rw[hEl];exact zgq
   have HIE:=hide hiE
   have hiI:(Tryz.prog.info? 47).map (·.size)=some IC.length:=by rw[hIl];exact zax
   have HII:=hide hiI
   have hZE:Z.size=EC.toArray.size:=by rw[uh HZ];simp[hEl]
   have HZE:=hide hZE
   have hj9:j≤100000:=by omega
   clear hW hB hEC hEo hnew hRI hIC hbs hIl hI1 hW5 hB5 g5 ho5 G5 hiE hiI hZE ho hg gW hid hEl
   go_wp2_with (first
    | (refine wpList_load_mid rfl 154 _ rfl b (o+j*34) rfl EC _ hr Tryz.underlying154 rfl (uh HIE) ?_;clear hr)
    | (refine wpList_store_row rfl 154 _ _ rfl wr.heap.size EC.toArray rfl rfl _ _ (heap_alloc_new _ _) (by simpa using uh HIE) (uh HZE) (uh HEO) ?_;rw[← uh HW])
    | (refine wpList_load_mid rfl 47 _ rfl wr.heap.size 2 rfl IC _ (uh HRI) Tryz.underlying47 rfl (uh HII) ?_)
    | (refine zav rfl 59 _ rfl (.agg IC.toArray) _ rfl (uh HBS) ?_;rw[← uh HW5])
    | (refine zb7 rfl _ _ rfl w1.heap.size _ _ _ rfl (uh HO5) _ IC (uh HB5) (uh HIL) (uh HI1) rfl hj9 (uh HG5).size ?_;intro v6 w6 ho6 g6;have HO6:=hide ho6;have HG6:=hide (zac (uh HG5) g6 (fun x e=>Or.inl ((uh HO5).lt x e).1));clear ho6 g6 HO5 HG5))
   go_roundw
   case rel =>
    refine ⟨j+1,by go_num,by omega,?_,uh HG6⟩
    rw[uh HNW]
    exact uh HO6
   case measure=>simp[intOf];omega
  ·have hjn:j=es.length:=by have:=uh HM;omega
   have hfin:wr.ownsRow w.heap.size 47 32 u4 (es.map (·.id)).length ((es.map (·.id)).flatMap (·.map bv)):=by
    have h1:=zb5 ho (uh HG1).size
    rw[hjn,List.take_of_length_le (Nat.le_refl _)] at h1
    rw[List.length_map];exact h1
   have HF:=hide hfin
   have HG:=hide (tn (uh HG1) hg)
   clear hjn hfin ho hg
   rcases (uh HK3) with h0 | ⟨h11,hnil⟩
   ·have hy0:y=0:=by rw[uh HY,h0]
    subst hy0
    have hl:zb8 2 d=es.map (·.id):=by rw[uh HK2 h0,uh HES]
    have hc:zar 2 d=0:=by rw[uh HK1,h0]
    obtain ⟨HLL,HCC⟩:=zh2 hl hc
    clear hl hc h0
    go_wp2
    refine bodyPost_ret (v := .tuple #[u4,.int .i64 0]) (by simp[results,Tryz.results63,go_sem]) rfl ?_
    exact ⟨u4,0,rfl,(uh HCC).symm,by rw[uh HLL];exact uh HF,uh HG⟩
   ·have hy0:y=11:=by rw[uh HY,h11]
    subst hy0
    have hc:zar 2 d=11:=by rw[uh HK1,h11]
    have HCC:=hide hc
    clear hc h11 hnil
    go_wp2
    refine bodyPost_ret (v := .tuple #[.slice none 0 0,.int .i64 11]) (by simp[results,Tryz.results63,go_sem]) rfl ?_
    exact zcc.bad (uh HCC) (by decide) (uh HG)
theorem zhn (V:World) (base:Nat) (IC:List Value) (hb:base≤V.heap.size) (hl:IC.length=32):(V.alloc (.cells IC.toArray 47)).ownsRow base 47 32 (.slice (some ⟨V.heap.size,0,none⟩) 1 1) 1 IC :=
 ⟨by simp[hl],.inr ⟨V.heap.size,1,IC.toArray,rfl,hb,heap_alloc_new V _,Nat.le_refl _,by decide,by simp[hl],by simp[hl,List.take_of_length_le]⟩⟩
set_option maxHeartbeats 4000000 in
theorem zku (w:World) (ao:Option Addr) (c:Nat) (d:List UInt8) (hb:Bts w ao c d) (hd:d.length≤16384):Calls Tryz.prog 63 #[.agg #[.int .i64 3,.slice ao d.length c]] w fun e w'=>zcc w w' 3 d e:=by
 obtain ⟨k1,k2,k3,k4,k5,k6⟩:=zqn d hd
 obtain ⟨n,hn⟩:∃ n,n=d.length:=⟨_,rfl⟩
 have hd2:¬ (16384:Int)<(n:Int):=by omega
 obtain ⟨Z,hZ⟩:∃ Z:List Value,Z=chC zdz none 0:=⟨_,rfl⟩
 have hzv:∀ w,(zeroValue 156).run Tryz.prog w = .ok (.agg Z.toArray) w:=fun w=>by rw[hZ];kernel_rfl
 have hZl:Z.length=36:=by rw[hZ];rfl
 obtain ⟨W0,hW0,hB0,g0⟩:∃ W1,W1=w.alloc (.cells #[.int .i64 3,.slice ao n c] 42)∧Blk W1 w.heap.size 42 [.int .i64 3,.slice ao n c]∧w.grownBy W1 none:=zah w _ _
 obtain ⟨W1,hW1,hB1,g1⟩:∃ W1,W1=W0.alloc (.cells Z.toArray 156)∧Blk W1 W0.heap.size 156 Z∧W0.grownBy W1 none:=zah W0 _ _
 have hs0:W0.heap.size=w.heap.size+1:=by rw[hW0];simp
 rw[hs0] at hB1
 have hBo:=hB0.kept g1 (by simp)
 have b0:=hBo.cell 0
 have b1:=hBo.cell 1
 simp only[List.getElem?_cons_zero,List.getElem?_cons_succ] at b0 b1
 have G1:=tn g0 g1
 have ct:=zhm W1 3 ao c d (hb.kept G1 (fun _ e=>by cases e)) (by omega)
 obtain ⟨t,ht⟩:∃ t,t=telC 3 d:=⟨_,rfl⟩
 rw[← ht] at ct k1 k2 k3 k4 k5 k6
 rw[← hn] at ct ⊢
 have hW:W1=(w.alloc (.cells #[.int .i64 3,.slice ao n c] 42)).alloc (.cells Z.toArray 156):=by rw[hW1,hW0]
 obtain ⟨HW1,HK1,HK2,HK3,HK4,HK5⟩:=zh6 hW k1 k2 k3 k4 k5
 obtain ⟨HK6,HB1,HG1,HZL⟩:=zh4 k6 hB1 G1 hZl
 clear k1 k2 k3 k4 k5 k6 hn hW0 hB0 g0 hb hd ht hZ hW1 hW hBo g1 hs0 hB1 G1 hZl
 go_enter Tryz.func63,Tryz.ntmps63
 go_wp2_with (rw[← uh HW1])
 refine ct.mono ?_
 rintro e w2 ⟨po,pc,y,rfl,hy,ho2,g2⟩
 have hBp:=(uh HB1).kept g2 (by simp)
 have G2:=tn (uh HG1) g2
 obtain ⟨C,hC⟩:∃ C,C=chC t.2 po pc:=⟨_,rfl⟩
 rw[← hC]
 have hCl:C.length=36:=by rw[hC];exact zgn _ _ _ (uh HK4)
 have hCo:C.toArray.all (·.oneCell')=true:=by rw[hC];exact all_oneCell_toArray (zgo _ _ _)
 obtain ⟨w3,hw3⟩:∃ V,V=w2.setRow (w.heap.size+1) C.toArray:=⟨_,rfl⟩
 have hB3:Blk w3 (w.heap.size+1) 156 C:=by rw[hw3];exact hBp.row _
 have G3:w.grownBy w3 none:=by rw[hw3];exact zaq G2 _ (Or.inl (Nat.le_succ _))
 have hrT:w3.rangeAt (w.heap.size+1) 0 (t.2.tree.map bv):=by
  have h1:=zal hB3
  rw[hC] at h1
  exact zgr h1
 obtain ⟨IC,hIC⟩:∃ I,I=t.2.tree.map bv:=⟨_,rfl⟩
 have hbs:=zif t.2.tree (uh HK4) w3
 rw[← hIC] at hrT hbs
 have hIl:IC.length=32:=by rw[hIC,List.length_map,uh HK4]
 obtain ⟨W5,hW5,hB5,g5⟩:=zah w3 47 IC
 have ho5:W5.ownsRow w3.heap.size 47 32 (.slice (some ⟨w3.heap.size,0,none⟩) 1 1) 1 IC:=by rw[hW5];exact zhn w3 w3.heap.size IC (Nat.le_refl _) hIl
 have G5:=tn G3 g5
 have hiC:(Tryz.prog.info? 156).map (·.size)=some C.toArray.size:=by rw[show C.toArray.size=36 by simpa using hCl];exact zbs
 have hZC:Z.toArray.size=C.toArray.size:=by have:=uh HZL;simp[this,hCl]
 have hiI:(Tryz.prog.info? 47).map (·.size)=some IC.length:=by rw[hIl];exact zax
 have hcp:W5.cell? ⟨w.heap.size+1,32,none⟩=some (.slice po t.2.pars.length pc):=by
  rw[(hB3.kept g5 (by simp)).cell 32,hC,(zjb _ _ _ (uh HK4)).1]
 have hO3:w3.ownsRow w.heap.size 47 32 (.slice po t.2.pars.length pc) t.2.pars.length (t.2.pars.flatMap (·.map bv)):=by
  rw[hw3];exact zby (zb5 ho2 (uh HG1).size) hBp (by decide) _
 have hP5:Ids W5 po pc t.2.pars:=by
  obtain ⟨ao2,c2,e1,e2⟩:=Ids.own (za8 hO3 g5 (fun x e=>by cases e)) (uh HK5)
  injection e1 with e3 e4 e5
  subst e3 e5
  exact e2
 have hp9:1+t.2.pars.length≤100000:=by have:=uh HK6;omega
 obtain ⟨ps,hps⟩:∃ ps,ps=t.2.pars:=⟨_,rfl⟩
 rw[← hps] at hcp hP5 hp9
 obtain ⟨HPS,HP5,HIC,HZC,HII,HCO⟩:=zh6 hps hP5 hiC hZC hiI hCo
 obtain ⟨HW3,HW5,HBP,HO5,HG5⟩:=zh5 hw3 hW5 hBp ho5 G5
 have HS5:=hide g5.size
 obtain ⟨HIE,HY,HBS⟩:=zh3 hIC hy hbs
 have HS3:=hide G3.size
 clear hiC hZC hiI hCo hw3 hW5 hBp ho5 G5 hIC hy hbs hB5 g5 hIl hCl hC hB3 G3 G2 ct b0 b1 g2 ho2 hO3 hP5 hps
 rcases (uh HK3) with h0 | h11
 ·have hy0:y=0:=by rw[uh HY,h0]
  subst hy0
  have hl:zb8 3 d=t.2.tree::t.2.pars:=uh HK2 h0
  have hc:zar 3 d=0:=by rw[uh HK1,h0]
  obtain ⟨HLL,HCC⟩:=zh2 hl hc
  clear hl hc h0
  go_wp2_with (first
   | (refine wpList_store_row rfl 156 _ _ rfl (w.heap.size+1) C.toArray rfl rfl _ _ (uh HBP) (uh HIC) (uh HZC) (uh HCO) ?_;rw[← uh HW3])
   | (refine wpList_load_mid rfl 47 _ rfl (w.heap.size+1) 0 rfl IC _ hrT Tryz.underlying47 rfl (uh HII) ?_;clear hrT)
   | (refine zav rfl 59 _ rfl (.agg IC.toArray) _ rfl (uh HBS) ?_;rw[← uh HW5])
   | (refine zcr rfl _ _ rfl w3.heap.size _ _ _ rfl (uh HO5) po pc ps (uh HP5) rfl hp9 (uh HS5) ?_;intro v6 w6 ho6 g6;have HO6:=hide ho6;have HG6:=hide (zac (uh HG5) g6 (fun x e=>Or.inl (Nat.le_trans (uh HS3) ((uh HO5).lt x e).1)));clear ho6 g6))
  refine bodyPost_ret (v := .tuple #[v6,.int .i64 0]) (by simp[results,Tryz.results63,go_sem]) rfl ?_
  refine ⟨v6,0,rfl,(uh HCC).symm,?_,uh HG6⟩
  rw[uh HLL,← uh HPS,List.length_cons,List.flatMap_cons,← uh HIE,Nat.add_comm]
  exact zb5 (uh HO6) (uh HS3)
 ·have hy0:y=11:=by rw[uh HY,h11]
  subst hy0
  have hc:zar 3 d=11:=by rw[uh HK1,h11]
  have HCC:=hide hc
  clear hc h11
  go_wp2_with (first
   | (refine wpList_store_row rfl 156 _ _ rfl (w.heap.size+1) C.toArray rfl rfl _ _ (uh HBP) (uh HIC) (uh HZC) (uh HCO) ?_;rw[← uh HW3])
   | (refine wpList_load_mid rfl 47 _ rfl (w.heap.size+1) 0 rfl IC _ hrT Tryz.underlying47 rfl (uh HII) ?_;clear hrT)
   | (refine zav rfl 59 _ rfl (.agg IC.toArray) _ rfl (uh HBS) ?_;rw[← uh HW5])
   | (refine zcr rfl _ _ rfl w3.heap.size _ _ _ rfl (uh HO5) po pc ps (uh HP5) rfl hp9 (uh HS5) ?_;intro v6 w6 ho6 g6;have HO6:=hide ho6;have HG6:=hide (zac (uh HG5) g6 (fun x e=>Or.inl (Nat.le_trans (uh HS3) ((uh HO5).lt x e).1)));clear ho6 g6))
  refine bodyPost_ret (v := .tuple #[.slice none 0 0,.int .i64 11]) (by simp[results,Tryz.results63,go_sem]) rfl ?_
  exact zcc.bad (uh HCC) (by decide) (uh HG6)
set_option maxHeartbeats 4000000 in
theorem zkv (w:World) (ao:Option Addr) (c:Nat) (d:List UInt8) (hb:Bts w ao c d) (hd:d.length≤16384):Calls Tryz.prog 63 #[.agg #[.int .i64 4,.slice ao d.length c]] w fun e w'=>zcc w w' 4 d e:=by
 obtain ⟨k1,k2,k3,k4⟩:=zqo d hd
 obtain ⟨n,hn⟩:∃ n,n=d.length:=⟨_,rfl⟩
 have hd2:¬ (16384:Int)<(n:Int):=by omega
 obtain ⟨Z,hZ⟩:∃ Z:List Value,Z=mkC zen:=⟨_,rfl⟩
 have hzv:∀ w,(zeroValue 160).run Tryz.prog w = .ok (.agg Z.toArray) w:=fun w=>by rw[hZ];kernel_rfl
 have hZl:Z.length=34:=by rw[hZ];rfl
 obtain ⟨W0,hW0,hB0,g0⟩:∃ W1,W1=w.alloc (.cells #[.int .i64 4,.slice ao n c] 42)∧Blk W1 w.heap.size 42 [.int .i64 4,.slice ao n c]∧w.grownBy W1 none:=zah w _ _
 obtain ⟨W1,hW1,hB1,g1⟩:∃ W1,W1=W0.alloc (.cells Z.toArray 160)∧Blk W1 W0.heap.size 160 Z∧W0.grownBy W1 none:=zah W0 _ _
 have hs0:W0.heap.size=w.heap.size+1:=by rw[hW0];simp
 rw[hs0] at hB1
 have hBo:=hB0.kept g1 (by simp)
 have b0:=hBo.cell 0
 have b1:=hBo.cell 1
 simp only[List.getElem?_cons_zero,List.getElem?_cons_succ] at b0 b1
 have G1:=tn g0 g1
 have ct:=zkr W1 4 ao c d (hb.kept G1 (fun _ e=>by cases e)) (by omega)
 obtain ⟨t,ht⟩:∃ t,t=telM 4 d:=⟨_,rfl⟩
 rw[← ht] at ct k1 k2 k3 k4
 rw[← hn] at ct ⊢
 have hW:W1=(w.alloc (.cells #[.int .i64 4,.slice ao n c] 42)).alloc (.cells Z.toArray 160):=by rw[hW1,hW0]
 obtain ⟨HW1,HK1,HK2,HK3,HK4⟩:=zh5 hW k1 k2 k3 k4
 skip
 obtain ⟨HB1,HG1,HZL⟩:=zh3 hB1 G1 hZl
 clear k1 k2 k3 k4 hn hW0 hB0 g0 hb hd ht hZ hW1 hW hBo g1 hs0 hB1 G1 hZl
 go_enter Tryz.func63,Tryz.ntmps63
 go_wp2_with (rw[← uh HW1])
 refine ct.mono ?_
 rintro e w2 ⟨y,rfl,hy,g2⟩
 have hBp:=(uh HB1).kept g2 (by simp)
 have G2:=tn (uh HG1) g2
 obtain ⟨C,hC⟩:∃ C,C=mkC t.2:=⟨_,rfl⟩
 rw[← hC]
 have hCl:C.length=34:=by rw[hC];exact zie _ (uh HK4)
 have hCo:C.toArray.all (·.oneCell')=true:=by rw[hC];exact all_oneCell_toArray (zgp _)
 obtain ⟨w3,hw3⟩:∃ V,V=w2.setRow (w.heap.size+1) C.toArray:=⟨_,rfl⟩
 have hB3:Blk w3 (w.heap.size+1) 160 C:=by rw[hw3];exact hBp.row _
 have G3:w.grownBy w3 none:=by rw[hw3];exact zaq G2 _ (Or.inl (Nat.le_succ _))
 have hrT:w3.rangeAt (w.heap.size+1) 0 (t.2.target.map bv):=by
  have h1:=zal hB3
  rw[hC] at h1
  exact zhg h1
 obtain ⟨IC,hIC⟩:∃ I,I=t.2.target.map bv:=⟨_,rfl⟩
 have hbs:=zif t.2.target (uh HK4) w3
 rw[← hIC] at hrT hbs
 have hIl:IC.length=32:=by rw[hIC,List.length_map,uh HK4]
 obtain ⟨W5,hW5,hB5,g5⟩:=zah w3 47 IC
 have ho5:W5.ownsRow w3.heap.size 47 32 (.slice (some ⟨w3.heap.size,0,none⟩) 1 1) 1 IC:=by rw[hW5];exact zhn w3 w3.heap.size IC (Nat.le_refl _) hIl
 have G5:=tn G3 g5
 have hiC:(Tryz.prog.info? 160).map (·.size)=some C.toArray.size:=by rw[show C.toArray.size=34 by simpa using hCl];exact zex
 have hZC:Z.toArray.size=C.toArray.size:=by have:=uh HZL;simp[this,hCl]
 have hiI:(Tryz.prog.info? 47).map (·.size)=some IC.length:=by rw[hIl];exact zax
 skip
 obtain ⟨HIC,HZC,HII,HCO,HW3,HW5⟩:=zh6 hiC hZC hiI hCo hw3 hW5
 obtain ⟨HBP,HO5,HG5⟩:=zh3 hBp ho5 G5
 have HS5:=hide g5.size
 obtain ⟨HIE,HY,HBS⟩:=zh3 hIC hy hbs
 have HS3:=hide G3.size
 clear hiC hZC hiI hCo hw3 hW5 hBp ho5 G5 hIC hy hbs hB5 g5 hIl hCl hC hB3 G3 G2 ct b0 b1 g2 
 rcases (uh HK3) with h0 | h11
 ·have hy0:y=0:=by rw[uh HY,h0]
  subst hy0
  have hl:zb8 4 d=[t.2.target]:=uh HK2 h0
  have hc:zar 4 d=0:=by rw[uh HK1,h0]
  obtain ⟨HLL,HCC⟩:=zh2 hl hc
  clear hl hc h0
  go_wp2_with (first
   | (refine wpList_store_row rfl 160 _ _ rfl (w.heap.size+1) C.toArray rfl rfl _ _ (uh HBP) (uh HIC) (uh HZC) (uh HCO) ?_;rw[← uh HW3])
   | (refine wpList_load_mid rfl 47 _ rfl (w.heap.size+1) 0 rfl IC _ hrT Tryz.underlying47 rfl (uh HII) ?_;clear hrT)
   | (refine zav rfl 59 _ rfl (.agg IC.toArray) _ rfl (uh HBS) ?_;rw[← uh HW5]))
  refine bodyPost_ret (v := .tuple #[.slice (some ⟨w3.heap.size,0,none⟩) 1 1,.int .i64 0]) (by simp[results,Tryz.results63,go_sem]) rfl ?_
  refine ⟨_,0,rfl,(uh HCC).symm,?_,uh HG5⟩
  rw[uh HLL]
  simp only[List.length_cons,List.length_nil,List.flatMap_cons,List.flatMap_nil,List.append_nil,Nat.zero_add]
  rw[← uh HIE]
  exact zb5 (uh HO5) (uh HS3)
 ·have hy0:y=11:=by rw[uh HY,h11]
  subst hy0
  have hc:zar 4 d=11:=by rw[uh HK1,h11]
  have HCC:=hide hc
  clear hc h11
  go_wp2_with (first
   | (refine wpList_store_row rfl 160 _ _ rfl (w.heap.size+1) C.toArray rfl rfl _ _ (uh HBP) (uh HIC) (uh HZC) (uh HCO) ?_;rw[← uh HW3])
   | (refine wpList_load_mid rfl 47 _ rfl (w.heap.size+1) 0 rfl IC _ hrT Tryz.underlying47 rfl (uh HII) ?_;clear hrT)
   | (refine zav rfl 59 _ rfl (.agg IC.toArray) _ rfl (uh HBS) ?_;rw[← uh HW5]))
  refine bodyPost_ret (v := .tuple #[.slice none 0 0,.int .i64 11]) (by simp[results,Tryz.results63,go_sem]) rfl ?_
  exact zcc.bad (uh HCC) (by decide) (uh HG5)
theorem zkw (w:World) (k:Int) (ao:Option Addr) (c:Nat) (d:List UInt8) (hb:Bts w ao c d):Calls Tryz.prog 63 #[.agg #[.int .i64 k,.slice ao d.length c]] w fun e w'=>zcc w w' k d e:=by
 by_cases hk:k<1∨4<k
 ·exact zks w k hk ao c d
 ·by_cases hd:16384<d.length
  ·exact zkt w k (by omega) (by omega) ao c d hd
  ·have h5:k=1∨k=2∨k=3∨k=4:=by omega
   rcases h5 with rfl | rfl | rfl | rfl
   ·exact ziq w ao c d (by omega)
   ·exact zir w ao c d hb (by omega)
   ·exact zku w ao c d hb (by omega)
   ·exact zkv w ao c d hb (by omega)
theorem zfq (w:World) (k:Int) (ao:Option Addr) (c:Nat) (d:List UInt8) (hb:Bts w ao c d):Calls Tryz.prog 40 #[.agg #[.int .i64 k,.slice ao d.length c]] w fun e w'=>e = .returned (.int .i64 (zar k d))∧w.grownBy w' none:=by
 obtain ⟨n,hn⟩:∃ n,n=d.length:=⟨_,rfl⟩
 have g0:w.grownBy (w.alloc (.cells #[.int .i64 k,.slice ao n c] 42)) none:=zai (zab _ _) _
 have cl:=zkw (w.alloc (.cells #[.int .i64 k,.slice ao n c] 42)) k ao c d (hb.kept g0 (fun _ e=>by cases e))
 rw[← hn] at cl ⊢
 obtain ⟨Y,hY⟩:∃ y,y=zar k d:=⟨_,rfl⟩
 rw[← hY]
 have HY:=hide hY
 clear hn hb hY
 go_enter Tryz.func40,Tryz.ntmps40
 go_wp2_with fail
 refine cl.mono ?_
 rintro e w2 ⟨v,y,rfl,hy,_,g2⟩
 rw[hy,← uh HY]
 clear hy cl
 go_wp2
 go_ret
 exact ⟨rfl,tn g0 g2⟩
end Go.Proofs.YtegbbkgmiklhcaaGreatDoor
