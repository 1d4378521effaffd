/- Lemmas. -/
import Derived.Test.YtlifmipnoeioaaaGreatDoorMTk
import Derived.Test.YtlifmipnoeioaaaGreatDoorGBuild
import Derived.Test.YtlifmipnoeioaaaGreatDoorGPick
import Derived.Test.YtlifmipnoeioaaaGreatDoorGOneM
import Derived.Test.YtlifmipnoeioaaaGreatDoorGOne
import Derived.Test.YtlifmipnoeioaaaGreatDoorGGet
import Derived.Deep.DeepCutAuto
namespace Go.Proofs.YtlifmipnoeioaaaGreatDoor
open Go.RowKit
set_option maxRecDepth 100000 in
set_option maxHeartbeats 8000000 in
theorem walk_packs (w:World) (ao:Option Addr) (ac n:Nat) (cb:Calls Tryz.prog 9 #[.slice ao n ac] w fun e w'=>Built w w' e) (bo:Option Addr) (bc:Nat) (P:List Int) (hP:Nts w bo bc P) (co:Option Addr) (cc:Nat) (Q:List Int) (hQ:Nts w co cc Q) (hT:Tabs w) :
  Calls Tryz.prog 6 #[.slice ao n ac,.slice bo P.length bc,.slice co Q.length cc] w fun e w'=>e = .returned (.bool true)∧w.grownBy w' none:=by
 obtain ⟨pn,hpn⟩:∃ n,n=P.length:=⟨_,rfl⟩
 obtain ⟨qn,hqn⟩:∃ n,n=Q.length:=⟨_,rfl⟩
 rw [← hpn,← hqn]
 have hzv:=zero_rset
 have hzo:=zero_obj
 obtain ⟨HPN,HQN,HP,HQ,HT⟩:=zh5 hpn hqn hP hQ hT
 clear hpn hqn hP hQ hT
 go_enter Tryz.func6,Tryz.ntmps6
 go_wp2_with fail
 refine cb.mono ?_
 rintro e w1 ⟨sb,mb,a1,a2,ia,n1,n2,c1,c2,ic,S,I,rfl,hb⟩
 clear cb
 obtain ⟨W2,hW2,hB2,g2⟩:=row_new w1 28 #[.slice none 0 0,.slice none 0 0] [.slice a1 n1 c1,.slice a2 n2 c2]
 have hS2:=hb.set.none g2
 have hI2:Nam W2 w.heap.size (.slice ia I.length ic) I:=(⟨hb.own,hb.wid⟩:Nam w1 w.heap.size (.slice ia I.length ic) I).none g2
 have G2:=tn hb.g g2
 have hI24:=hb.few
 have hS24:=hb.sew
 have hSS:=hb.set.ok
 obtain ⟨m,hm⟩:∃ m,m=I.length:=⟨_,rfl⟩
 have cp:=picked_any W2 ia ic I hI2.ids.1 bo bc P ((uh HP).kept G2) (by omega)
 rw [← uh HPN,← hm] at cp
 have HW2:=hide hW2
 have HB2:=hide (Blk.new w1 28 [.slice none 0 0,.slice none 0 0])
 obtain ⟨HI2,HS2,HG2,HM,HSS⟩:=zh5 hI2 hS2 G2 hm hSS
 have HWI:=hide hb.wid
 rw [← hm]
 clear hb hW2 hB2 g2 hS2 hI2 G2 hm hSS
 go_upto_region 8 with (first
  | (refine wpList_store_row rfl 28 _ _ rfl w1.heap.size _ rfl rfl _ _ (uh HB2) info_rset rfl (rset_one _ _ _ _ _ _) ?_;rw [← uh HW2])
  | (go_at_call 21;refine cp.mono ?_;rintro e w3 ⟨vx,X,rfl,hXo,hXI,hX6,g3⟩;clear cp;have G3:=tn (uh HG2) g3;have cq:=picked_any w3 ia ic I ((uh HI2).none g3).ids.1 co cc Q ((uh HQ).kept G3) (by omega);rw [← uh HQN,← uh HM] at cq;have HX3:=hide (⟨own_low hXo (uh HG2).size,fun z hz=>uh HWI z (hXI z hz)⟩:Nam w3 w.heap.size vx X);have HS3:=hide ((uh HS2).none g3);have HG3:=hide G3;clear hXo hXI g3 G3)
  | (go_at_call 21;refine cq.mono ?_;rintro e w4 ⟨vy,Y,rfl,hYo,hYI,hY6,g4⟩;clear cq;have G4:=tn (uh HG3) g4;have HY4:=hide (⟨own_low hYo (uh HG3).size,fun z hz=>uh HWI z (hYI z hz)⟩:Nam w4 w.heap.size vy Y);have HX4:=hide ((uh HX3).none g4);have HS4:=hide ((uh HS3).none g4);have HG4:=hide G4;have cn:=gnew_any w4;clear hYo hYI g4 G4)
  | (go_at_call 31;refine cn.mono ?_;rintro e w5 ⟨tb,nb,rfl,hH5,g5⟩;clear cn;have hk:Pk w w4 w5 sb mb tb nb S [] [(vx,X),(vy,Y)]:=⟨(uh HS4).none g5,hH5,(fun e=>by have h1:=(uh HS4).lt;have h2:=hH5.nm;omega),(fun p hp=>by rcases List.mem_cons.1 hp with rfl | hp;exact (uh HX4).none g5;rw [List.mem_singleton.1 hp];exact (uh HY4).none g5),tn (uh HG4) g5,(uh HG4).size⟩;clear hH5 g5;obtain ⟨xa,xc,ex,hXx,hXl⟩:=(hk.rows (vx,X) (by simp)).open;obtain ⟨ya,yc,ey,hYy,hYl⟩:=(hk.rows (vy,Y) (by simp)).open;simp only at ex ey;obtain ⟨xn,hxn⟩:∃ n,n=X.length:=⟨_,rfl⟩;obtain ⟨yn,hyn⟩:∃ n,n=Y.length:=⟨_,rfl⟩;have cr:=reach_any w5 (some ⟨sb,0,none⟩) S hk.s.sat ya yc Y hYy hYl (by omega);rw [← hxn] at ex;rw [← hyn] at ey cr;subst ex ey;have HK:=hide hk;have HXN:=hide hxn;have HYN:=hide hyn;clear hk hXx hXl hYy hYl hxn hyn)
  | (go_at_call 22;refine cr.mono ?_;rintro e w6 ⟨vt,vm,T,M,rfl,hTr,hMr,hTm,hMm,hTM,g6⟩;clear cr;have hTw:∀ x∈T,x.length=32:=(fun x hx=>has_wide (uh HSS) ((hTm x).1 hx).2);have hk6:=((uh HK).none g6).add (⟨own_low hTM.one (uh HK).g.size,hTw⟩:Nam w6 w.heap.size vt T);obtain ⟨ma,mc,em⟩:=own_sl hTM.two;obtain ⟨ta,tc,et,_,_⟩:=(hk6.rows (vt,T) (by simp)).open;simp only at et;obtain ⟨tn',htn⟩:∃ n,n=T.length:=⟨_,rfl⟩;rw [← htn] at et;subst em et;have htn9:tn'≤24:=(by rw [htn];exact Nat.le_trans (nodup_le hTr.nodup (fun x hx=>(hasS_mem S x).1 ((hTm x).1 hx).2)) (by simpa [idsS] using hS24));have HK6:=hide hk6;have HTR:=hide hTr;have HTM:=hide hTm;have HTN:=hide htn;clear hk6 hTM hTr hMr hTm hMm hTw g6 htn HK))
 go_loopw [15,16,17] (fun i _x _y wr=>∃ (j:Nat) (H:List ObE),i = .int .i64 j∧j≤tn'∧HOf S H (T.take j)∧Pk w w4 wr sb mb tb nb S H [(.slice ta tn' tc,T),(.slice xa xn xc,X),(.slice ya yn yc,Y)]) (fun i _ _ _=>tn' - (intOf i).toNat)
 case atStart=>exact ⟨0,[],rfl,Nat.zero_le _,(by simpa using HOf.nil S),uh HK6⟩
 case round =>
  obtain ⟨j,H,rfl,hj,hof,hk⟩:=hrel
  by_cases hlt:j<tn'
  ·have hjT:j<T.length:=by rw [← uh HTN];exact hlt
   have hmem:T[j]∈T:=List.getElem_mem hjT
   obtain ⟨tbk,tof,hta,hrow⟩:=(hk.rows (.slice ta tn' tc,T) (by simp)).at j hjT
   have hx32:=(hk.rows (.slice ta tn' tc,T) (by simp)).wid _ hmem
   obtain ⟨o,ho⟩:=has_some (((uh HTM _).1 hmem).2)
   obtain ⟨hoS,hoid⟩:=lkS_mem ho
   have htk:=List.take_succ_eq_append_getElem hjT
   obtain ⟨x,hx⟩:∃ x,x=T[j]:=⟨_,rfl⟩
   rw [← hx] at hrow hx32 ho hoid htk hmem
   obtain ⟨KB,hKB⟩:∃ KB,KB=x.map bv:=⟨_,rfl⟩
   rw [← hKB] at hrow
   have hiK:(Tryz.prog.info? 33).map (·.size)=some KB.length:=by rw [hKB,List.length_map,hx32];exact info_id
   have cg:=gget_ok w wr sb mb S hk.s x hx32 o ho
   rw [key_of hKB] at cg
   obtain ⟨HROW,HIK,HKB,HTK,HLK,HOS⟩:=zh6 hrow hiK hKB htk ho hoS
   obtain ⟨HX32,HK,HMEM⟩:=zh3 hx32 hk hmem
   have hjw:IntKind.i64.wrap ((j:Int)+1)=(j:Int)+1:=by rw [IntKind.wrap_i64];omega
   clear hrow hiK hKB htk ho hoS hoid hx32 hk hx hmem
   have HOF:=hide hof
   clear hof
   subst hta
   go_upto_region 11 with (first | (refine wpList_load_mid rfl 33 _ rfl tbk (tof+j*32) rfl KB _ (uh HROW) Tryz.underlying33 rfl (uh HIK) ?_) | (go_at_call 14;refine cg.mono ?_;rintro e w7 ⟨v7,rfl,hn7,g7⟩;clear cg;obtain ⟨a7,c7,rfl,hD7⟩:=hn7.dat;obtain ⟨dn,hdn⟩:∃ n,n=o.d.length:=⟨_,rfl⟩;rw [← hdn];obtain ⟨ok,hok⟩:∃ k,k=o.k:=⟨_,rfl⟩;rw [← hok];obtain ⟨W8,hW8,hB8,g8⟩:=row_new w7 42 #[.int .i64 0,.slice none 0 0] [.int .i64 ok,.slice a7 dn c7];have hk8:=((uh HK).none g7).none g8;have HD8:=hide (hD7.none g8);have HW8:=hide hW8;have HB8:=hide hB8;have HK8:=hide hk8;have HDN:=hide hdn;have HOK:=hide hok;clear hn7 hD7 g7 g8 hW8 hB8 hk8 hdn hok) | (refine wpList_store_row rfl 42 _ _ rfl w7.heap.size _ rfl rfl _ _ (Blk.new w7 42 [.int .i64 0,.slice none 0 0]) info_obj rfl (obj_one rfl) ?_;rw [← uh HW8]))
   (try simp only [Act.put])
   have cput:=gput_of w4 W8 tb nb H S (uh HK8).h (uh HSS) o (uh HOS) a7 c7 (uh HD8) (by have:=(uh HOF).few (uh HK8).h.ok;omega) ((uh HT).kept0 (uh HK8).g)
   rw [← uh HDN,← uh HOK] at cput
   have hr8:=blk_all (uh HB8)
   go_wp2_with (first | (refine wpList_load_mid rfl 42 _ rfl w7.heap.size 0 rfl [.int .i64 ok,.slice a7 dn c7] _ hr8 Tryz.underlying42 rfl info_obj ?_;clear hr8) | (go_at_call 32;refine cput.mono ?_;rintro e w9 ⟨v9,rfl,hH9,g9⟩;clear cput;have hk9:=(uh HK8).put hH9 g9;have HK9:=hide hk9;have HOF9:=hide (HOf.put (uh HSS) (uh HK8).h.ok (uh HOF) (uh HLK));clear hH9 g9 hk9))
   go_roundw
   case rel=>exact ⟨j+1,putS H o,by go_num,by omega,by rw [uh HTK];exact uh HOF9,uh HK9⟩
   case measure=>simp [intOf];omega
  ·have hjn:j=T.length:=by rw [← uh HTN];omega
   have hof2:HOf S H T:=by rw [hjn,List.take_length] at hof;exact hof
   have HOFT:=hide hof2
   obtain ⟨hXx,hXl⟩:=(hk.rows (.slice xa xn xc,X) (by simp)).ids
   obtain ⟨hYy,hYl⟩:=(hk.rows (.slice ya yn yc,Y) (by simp)).ids
   have cbe:=beyond_any wr (some ⟨sb,0,none⟩) S hk.s.sat xa xc X hXx hXl (by omega) ya yc Y hYy hYl (by omega)
   rw [← uh HXN,← uh HYN] at cbe
   have HK:=hide hk
   clear hjn hof hof2 hXx hXl hYy hYl hk
   go_upto_region 14 with (go_at_call 24;refine cbe.mono ?_;rintro e w7 ⟨vb,B,rfl,hBr,hBm,hBo,g7⟩;clear cbe;have hk7:=((uh HK).none g7).add (⟨own_low hBo (uh HK).g.size,fun x hx=>has_wide (uh HSS) ((hBm x).1 hx).1.2⟩:Nam w7 w.heap.size vb B);obtain ⟨ba,bc',eb,_,_⟩:=(hk7.rows (vb,B) (by simp)).open;simp only at eb;obtain ⟨bn,hbn⟩:∃ n,n=B.length:=⟨_,rfl⟩;rw [← hbn] at eb;subst eb;have hbn9:bn≤24:=(by rw [hbn];exact Nat.le_trans (nodup_le hBr.nodup (fun x hx=>(hasS_mem S x).1 ((hBm x).1 hx).1.2)) (by simpa [idsS] using hS24));have HK7:=hide hk7;have HBR:=hide hBr;have HBM:=hide hBm;have HBN:=hide hbn;clear hk7 hBo hBr hBm g7 hbn)
   go_loopw [19,20,21] (fun i _x _y wr=>∃ (j:Nat) (H:List ObE),i = .int .i64 j∧j≤bn∧HOf S H (T++B.take j)∧Pk w w4 wr sb mb tb nb S H [(.slice ba bn bc',B),(.slice ta tn' tc,T),(.slice xa xn xc,X),(.slice ya yn yc,Y)]) (fun i _ _ _=>bn - (intOf i).toNat)
   case atStart=>exact ⟨0,H,rfl,Nat.zero_le _,(by simpa using uh HOFT),uh HK7⟩
   case round =>
    clear H HOFT HK7 HK6 HK
    rename_i H0
    obtain ⟨j,H,rfl,hj,hof,hk⟩:=hrel
    by_cases hlt:j<bn
    ·have hjT:j<B.length:=by rw [← uh HBN];exact hlt
     have hmem:B[j]∈B:=List.getElem_mem hjT
     obtain ⟨tbk,tof,hta,hrow⟩:=(hk.rows (.slice ba bn bc',B) (by simp)).at j hjT
     have hx32:=(hk.rows (.slice ba bn bc',B) (by simp)).wid _ hmem
     obtain ⟨o,ho⟩:=has_some (((uh HBM _).1 hmem).1.2)
     obtain ⟨hoS,hoid⟩:=lkS_mem ho
     have htk:=List.take_succ_eq_append_getElem hjT
     obtain ⟨x,hx⟩:∃ x,x=B[j]:=⟨_,rfl⟩
     have HXJ:=hide hx.symm
     rw [← hx] at hrow hx32 ho hoid htk hmem
     obtain ⟨KB,hKB⟩:∃ KB,KB=x.map bv:=⟨_,rfl⟩
     rw [← hKB] at hrow
     have hiK:(Tryz.prog.info? 33).map (·.size)=some KB.length:=by rw [hKB,List.length_map,hx32];exact info_id
     have cg:=gget_ok w wr sb mb S hk.s x hx32 o ho
     rw [key_of hKB] at cg
     obtain ⟨HROW,HIK,HKB,HTK,HLK,HOS⟩:=zh6 hrow hiK hKB htk ho hoS
     obtain ⟨HX32,HK,HMEM⟩:=zh3 hx32 hk hmem
     have hjw:IntKind.i64.wrap ((j:Int)+1)=(j:Int)+1:=by rw [IntKind.wrap_i64];omega
     clear hrow hiK hKB htk ho hoS hoid hx32 hk hx hmem
     have hnot:x∉T++B.take j:=by
      have h1:=(uh HBM x).1 (uh HMEM)
      intro hx
      rcases List.mem_append.1 hx with hx | hx
      ·exact h1.2 ((uh HTM x).1 hx).1
      ·have hnd:=(uh HBR).nodup
       have hnd2:(B.take (j+1)).Nodup:=hnd.sublist (List.take_sublist _ _)
       rw [uh HTK] at hnd2
       exact (List.nodup_append.1 hnd2).2.2 x hx x (by simp) rfl
     have HNOT:=hide (hof.not hnot)
     have HOF:Hid (HOf S H (T++B.take j)):=hof
     clear hof hnot
     subst hta
     go_upto_region 17 with (first | (refine wpList_load_mid rfl 33 _ rfl tbk (tof+j*32) rfl KB _ (uh HROW) Tryz.underlying33 rfl (uh HIK) ?_) | (go_at_call 14;refine cg.mono ?_;rintro e w7 ⟨v7,rfl,hn7,g7⟩;clear cg;obtain ⟨a7,c7,rfl,hD7⟩:=hn7.dat;obtain ⟨dn,hdn⟩:∃ n,n=o.d.length:=⟨_,rfl⟩;rw [← hdn];obtain ⟨ok,hok⟩:∃ k,k=o.k:=⟨_,rfl⟩;rw [← hok];obtain ⟨W8,hW8,hB8,g8⟩:=row_new w7 42 #[.int .i64 0,.slice none 0 0] [.int .i64 ok,.slice a7 dn c7];have hk8:=((uh HK).none g7).none g8;have HD8:=hide (hD7.none g8);have HW8:=hide hW8;have HB8:=hide hB8;have HK8:=hide hk8;have HDN:=hide hdn;have HOK:=hide hok;clear hn7 hD7 g7 g8 hW8 hB8 hk8 hdn hok) | (refine wpList_store_row rfl 42 _ _ rfl w7.heap.size _ rfl rfl _ _ (Blk.new w7 42 [.int .i64 0,.slice none 0 0]) info_obj rfl (obj_one rfl) ?_;rw [← uh HW8]))
     (try simp only [Act.put])
     have chs:=ghas_any W8 (some ⟨tb,0,none⟩) H (uh HK8).h.sat x (uh HX32)
     rw [key_of (uh HKB),uh HNOT] at chs
     have hr7:W8.rangeAt tbk (tof+j*32) KB:=by
      obtain ⟨b9,o9,e9,hr9⟩:=((uh HK8).rows (.slice (some ⟨tbk,tof,none⟩) bn bc',B) (by simp)).at j (by rw [← uh HBN];exact hlt)
      injection e9 with e9
      injection e9 with q1 q2
      subst q1 q2
      have hxj:B[j]'(by rw [← uh HBN];exact hlt)=x:=uh HXJ
      rw [hxj,← uh HKB] at hr9
      exact hr9
     go_upto_region 17 with fail
     refine region_named fun O hO => ?_
     refine wpList_val (by rw [hO];kernel_rfl) (.int .i64 (0)) (fun K9 hK9=>by go_simp;exact hK9) ?_
     (try simp only [Act.put,pq1,pq2,pq3])
     refine wpList_val (by rw [hO];kernel_rfl) (.bool false) (fun K9 hK9=>by go_simp;exact hK9) ?_
     (try simp only [Act.put,pq1,pq2,pq3])
     refine wpList_val (by rw [hO];kernel_rfl) (.bool false) (fun K9 hK9=>by go_simp;exact hK9) ?_
     (try simp only [Act.put,pq1,pq2,pq3])
     refine wpList_val (by rw [hO];kernel_rfl) (.pointer (some ⟨tb,0,none⟩)) (fun K9 hK9=>by go_simp;exact hK9) ?_
     (try simp only [Act.put,pq1,pq2,pq3])
     refine wpList_val (by rw [hO];kernel_rfl) (.slice (some ⟨tbk,tof,none⟩) bn bc') (fun K9 hK9=>by go_simp;exact hK9) ?_
     (try simp only [Act.put,pq1,pq2,pq3])
     refine wpList_val (by rw [hO];kernel_rfl) (.int .i64 ((j:Int))) (fun K9 hK9=>by go_simp;exact hK9) ?_
     (try simp only [Act.put,pq1,pq2,pq3])
     refine wpList_val (by rw [hO];kernel_rfl) (.pointer (some ⟨tbk,tof+j*32,none⟩)) (fun K9 hK9=>by go_simp;exact hK9) ?_
     (try simp only [Act.put,pq1,pq2,pq3])
     refine wpList_val (by rw [hO];kernel_rfl) (.agg KB.toArray) (fun K9 hK9=>wp_load_mid 33 _ rfl tbk (tof+j*32) rfl KB _ hr7 Tryz.underlying33 rfl (uh HIK) hK9) ?_
     (try simp only [Act.put,pq1,pq2,pq3])
     refine wpList_want (by rw [hO];kernel_rfl) fun K9 hK9 => ?_
     go_simp
     go_at_call 13
     refine (chs).mono ?_
     rintro e w8h ⟨rfl,g8h⟩
     have HK8h:=hide ((uh HK8).none g8h)
     have HD8h:=hide ((uh HD8).none g8h)
     have hr8:=range_kept (blk_all (uh HB8)) g8h (by simp)
     clear g8h hr7
     refine hK9 _ _ ?_
     clear hK9 K9
     (try simp only [Act.put,pq1,pq2,pq3])
     refine wpList_val (by rw [hO];kernel_rfl) (.bool false) (fun K9 hK9=>by go_simp;exact hK9) ?_
     (try simp only [Act.put,pq1,pq2,pq3])
     clear chs
     go_upto_region 19 with fail
     have cput:=gput_of w4 w8h tb nb H S (uh HK8h).h (uh HSS) o (uh HOS) a7 c7 (uh HD8h) (by have:=(uh HOF).few (uh HK8h).h.ok;omega) ((uh HT).kept0 (uh HK8h).g)
     rw [← uh HDN,← uh HOK] at cput
     go_wp2_with (first | (refine wpList_load_mid rfl 42 _ rfl w7.heap.size 0 rfl [.int .i64 ok,.slice a7 dn c7] _ hr8 Tryz.underlying42 rfl info_obj ?_;clear hr8) | (go_at_call 32;refine cput.mono ?_;rintro e w9 ⟨v9,rfl,hH9,g9⟩;clear cput;have hk9:=(uh HK8h).put hH9 g9;have HK9:=hide hk9;have HOF9:=hide (HOf.put (uh HSS) (uh HK8h).h.ok (uh HOF) (uh HLK));clear hH9 g9 hk9))
     go_roundw
     case rel=>exact ⟨j+1,putS H o,by go_num,by omega,by rw [uh HTK,← List.append_assoc];exact uh HOF9,uh HK9⟩
     case measure=>simp [intOf];omega
    ·have hjn:j=B.length:=by rw [← uh HBN];omega
     have hof2:HOf S H (T++B):=by rw [hjn,List.take_length] at hof;exact hof
     have hps:=pack_same (R:=X) hk.h.ok hof2 (fun x h1 h2=>by
      by_cases h3:Rch (nxS S) Y x
      ·exact List.mem_append_left _ ((uh HTM x).2 ⟨h3,h1⟩)
      ·exact List.mem_append_right _ ((uh HBM x).2 ⟨⟨h2,h1⟩,h3⟩))
     obtain ⟨hXx,hXl⟩:=(hk.rows (.slice xa xn xc,X) (by simp)).ids
     have cr1:=reach_any wr (some ⟨sb,0,none⟩) S hk.s.sat xa xc X hXx hXl (by omega)
     rw [← uh HXN] at cr1
     obtain ⟨HPS,HK⟩:=zh2 hps hk
     obtain ⟨W9,hW9⟩:∃ W:World,W=W:=⟨wr,rfl⟩
     clear hjn hof hof2 hXx hXl hk hps hW9 W9
     go_upto_region 24 with (first
      | (go_at_call 22;refine cr1.mono ?_;rintro e wa ⟨v2,u2,T2,M2,rfl,hT2r,hM2r,hT2m,hM2m,hTM2,ga⟩;clear cr1;have hka:=((uh HK).none ga).add (⟨own_low hTM2.one (uh HK).g.size,fun x hx=>has_wide (uh HSS) ((hT2m x).1 hx).2⟩:Nam wa w.heap.size v2 T2);obtain ⟨a22,c22,e22⟩:=own_sl hTM2.two;obtain ⟨n2a,n2c,e2,_,_⟩:=(hka.rows (v2,T2) (by simp)).open;simp only at e2;obtain ⟨k2,hk2⟩:∃ n,n=T2.length:=⟨_,rfl⟩;obtain ⟨l2,hl2⟩:∃ n,n=M2.length:=⟨_,rfl⟩;rw [← hk2] at e2;rw [← hl2] at e22;subst e2 e22;have hk29:k2≤24:=(by rw [hk2];exact Nat.le_trans (nodup_le hT2r.nodup (fun x hx=>(hasS_mem S x).1 ((hT2m x).1 hx).2)) (by simpa [idsS] using hS24));obtain ⟨hXa,hXal⟩:=(hka.rows (.slice xa xn xc,X) (by simp)).ids;have cr2:=reach_any wa (some ⟨tb,0,none⟩) H hka.h.sat xa xc X hXa hXal (by omega);rw [← uh HXN] at cr2;have HKa:=hide hka;have HT2R:=hide hT2r;have HM2R:=hide hM2r;have HT2M:=hide hT2m;have HM2M:=hide hM2m;have HK2:=hide hk2;have HL2:=hide hl2;clear hka hTM2 hT2r hM2r hT2m hM2m ga hk2 hl2 hXa hXal)
      | (go_at_call 22;refine cr2.mono ?_;rintro e wb ⟨v3,u3,T3,M3,rfl,hT3r,hM3r,hT3m,hM3m,hTM3,gb⟩;clear cr2;have e3T:T3=T2:=(hT3r.ext (uh HT2R) (fun x=>by rw [hT3m,uh HT2M,(uh HPS).1 x];exact ⟨fun h=>⟨h.1,by rw [← (uh HPS).2 x h.1];exact h.2⟩,fun h=>⟨h.1,by rw [(uh HPS).2 x h.1];exact h.2⟩⟩));have e3M:M3=M2:=(hM3r.ext (uh HM2R) (fun x=>by rw [hM3m,uh HM2M,(uh HPS).1 x];exact ⟨fun h=>⟨h.1,by rw [← (uh HPS).2 x h.1];exact h.2⟩,fun h=>⟨h.1,by rw [(uh HPS).2 x h.1];exact h.2⟩⟩));rw [e3T,e3M] at hTM3;obtain ⟨a31,c31,e31⟩:=own_sl hTM3.one;obtain ⟨a32,c32,e32⟩:=own_sl hTM3.two;rw [← uh HK2] at e31;rw [← uh HL2] at e32;subst e31 e32;have HKb:=hide ((uh HKa).none gb);clear hTM3 hT3r hM3r hT3m hM3m gb e3T e3M))
     obtain ⟨Wc,hWc,hOc,gc⟩:=own_new0 wb 33 32 wb.heap.size (Nat.le_refl _)
     obtain ⟨HWc,HOc,HGC⟩:=zh3 hWc hOc gc
     have HKc:=hide ((uh HKb).none gc)
     have hbs0:=bs_id0
     clear hWc hOc gc
     have hX6' : xn≤6:=by rw [uh HXN];exact hX6
     have hY6' : yn≤6:=by rw [uh HYN];exact hY6
     go_upto_region 27 with (first
      | (rw [← uh HWc])
      | (refine wpList_append_ids rfl _ _ rfl wb.heap.size (.slice (some ⟨wb.heap.size,0,none⟩) 0 0) [] X ((uh HKc).rows (.slice xa xn xc,X) (by simp)).wid rfl (uh HOc) xa xn xc rfl (uh HXN) ((uh HKc).rows (.slice xa xn xc,X) (by simp)).rws (by rw [← uh HXN];simp;omega) (uh HGC).size ?_;intro vd wd hOd gd;have gbd:=gb_trans (uh HGC) gd (fun x e=>Or.inl ((uh HOc).lt x e).1);have HOd:=hide hOd;have HKd:=hide ((uh HKb).none gbd);have HGd:=hide gbd;clear hOd gd gbd)
      | (refine wpList_append_ids rfl _ _ rfl wb.heap.size vd ([]++X) Y ((uh HKd).rows (.slice ya yn yc,Y) (by simp)).wid rfl (uh HOd) ya yn yc rfl (uh HYN) ((uh HKd).rows (.slice ya yn yc,Y) (by simp)).rws (by rw [List.nil_append,← uh HXN,← uh HYN];omega) (uh HGd).size ?_;intro ve we hOe ge;have gbe:=gb_trans (uh HGd) ge (fun x e=>Or.inl ((uh HOd).lt x e).1);have hke:=(uh HKb).none gbe;have hZ:Nam we wb.heap.size ve ([]++X++Y):=⟨hOe,(fun x hx=>by rw [List.nil_append] at hx;rcases List.mem_append.1 hx with hx | hx;exact ((uh HKd).rows (.slice xa xn xc,X) (by simp)).wid x hx;exact ((uh HKd).rows (.slice ya yn yc,Y) (by simp)).wid x hx)⟩;obtain ⟨za,zc,ez,hZi,hZl⟩:=hZ.open;have cr4:=reach_any we (some ⟨sb,0,none⟩) S hke.s.sat za zc _ hZi hZl (by rw [List.nil_append,List.length_append,← uh HXN,← uh HYN];omega);obtain ⟨zn,hzn⟩:∃ n,n=([]++X++Y).length:=⟨_,rfl⟩;rw [← hzn] at ez cr4;subst ez;have HKe:=hide hke;clear hOe ge gbe hke hZ hZi hZl hzn)
      | (go_at_call 22;refine cr4.mono ?_;rintro e wf ⟨v4,u4,T4,M4,rfl,hT4r,hM4r,hT4m,hM4m,hTM4,gf⟩;clear cr4;have hkf:=((uh HKe).none gf).add (⟨own_low hTM4.one (uh HKe).g.size,fun x hx=>has_wide (uh HSS) ((hT4m x).1 hx).2⟩:Nam wf w.heap.size v4 T4);obtain ⟨a42,c42,e42⟩:=own_sl hTM4.two;obtain ⟨n4a,n4c,e4,_,_⟩:=(hkf.rows (v4,T4) (by simp)).open;simp only at e4;obtain ⟨k4,hk4⟩:∃ n,n=T4.length:=⟨_,rfl⟩;rw [← hk4] at e4;subst e4 e42;have hk49:k4≤24:=(by rw [hk4];exact Nat.le_trans (nodup_le hT4r.nodup (fun x hx=>(hasS_mem S x).1 ((hT4m x).1 hx).2)) (by simpa [idsS] using hS24));have hin:∀ x∈T2,x∈T4:=(fun x hx=>(hT4m x).2 ⟨((uh HT2M x).1 hx).1.more (fun z hz=>by simp [hz]),((uh HT2M x).1 hx).2⟩);have HKf:=hide hkf;have HT4R:=hide hT4r;have HK4:=hide hk4;have HIN:=hide hin;clear hkf hTM4 hT4r hM4r hT4m hM4m gf hk4 hin))
     go_loopw [28,29] (fun nn ii wr=>∃ (a i:Nat),nn = .int .i64 a∧ii = .int .i64 i∧i≤k4∧Mrg T2 T4 a i∧wf.grownBy wr none) (fun _ ii _=>k4 - (intOf ii).toNat)
     case atStart=>exact ⟨0,0,rfl,rfl,Nat.zero_le _,Mrg.start (uh HIN),gb_refl _ _⟩
     case round =>
      obtain ⟨a,i,rfl,rfl,hi4,hmg,hgw⟩:=hrel
      have hale:a≤k2:=by rw [uh HK2];exact hmg.le
      have hrows:=(uh HKf).none hgw
      by_cases hgo:i<k4∧a<k2
      ·obtain ⟨h1,h2⟩:=hgo
       have hi:i<T4.length:=by rw [← uh HK4];exact h1
       have ha:a<T2.length:=by rw [← uh HK2];exact h2
       obtain ⟨b4,o4,e4,hr4⟩:=(hrows.rows (.slice n4a k4 n4c,T4) (by simp)).at i hi
       obtain ⟨b2,o2,e2,hr2⟩:=(hrows.rows (.slice n2a k2 n2c,T2) (by simp)).at a ha
       have h432:=(hrows.rows (.slice n4a k4 n4c,T4) (by simp)).wid _ (List.getElem_mem hi)
       have h232:=(hrows.rows (.slice n2a k2 n2c,T2) (by simp)).wid _ (List.getElem_mem ha)
       simp only at hr4 hr2 h432 h232
       obtain ⟨K4,hK4⟩:∃ K,K=T4[i].map bv:=⟨_,rfl⟩
       obtain ⟨K2,hK2⟩:∃ K,K=T2[a].map bv:=⟨_,rfl⟩
       have HI4:Hid ((Tryz.prog.info? 33).map (·.size)=some K4.length):=by rw [hK4,List.length_map,h432];exact info_id
       have HI2:Hid ((Tryz.prog.info? 33).map (·.size)=some K2.length):=by rw [hK2,List.length_map,h232];exact info_id
       have heq:∀ V,(binOp .eql 33 (.agg K4.toArray) (.agg K2.toArray)).run Tryz.prog V = .ok (.bool (T4[i] == T2[a])) V:=fun V=>by rw [hK4,hK2];exact eql_id V _ _ h432 h232
       rw [← hK4] at hr4
       rw [← hK2] at hr2
       have hiw:IntKind.i64.wrap ((i:Int)+1)=(i:Int)+1:=by rw [IntKind.wrap_i64];omega
       have haw:IntKind.i64.wrap ((a:Int)+1)=(a:Int)+1:=by rw [IntKind.wrap_i64];omega
       have h0:wr.grownBy wr.drew none:=gb_drew (gb_refl _ _)
       clear hK4 hK2 h432 h232
       by_cases hh:T4[i]=T2[a]
       ·have HEQ:Hid (∀ V,(binOp .eql 33 (.agg K4.toArray) (.agg K2.toArray)).run Tryz.prog V = .ok (.bool true) V):=fun V=>by rw [heq];simp [hh]
        have HNX:=hide (hmg.hit (uh HT2R) ha hi hh)
        clear heq hh hmg hi ha hrows
        subst e4 e2
        go_upto_region 29 with fail
        refine wp_region_noPanic ?_
        refine wp_region_held_drew (S:=fun V=>wr.grownBy V none) (by kernel_rfl) h0 (fun _ => ?_)
        refine tq 0 147 (.move (.tmp 26)) (.slice (some ⟨b4,o4,none⟩) k4 n4c) h0 ?_
        refine tq 1 148 (.move (.tmp 29)) (.int .i64 ((i:Int))) h0 ?_
        refine tq 2 149 (.indexAddr 29 (.tmp 147) (.tmp 148)) (.pointer (some ⟨b4,o4+i*32,none⟩)) h0 ?_
        refine tz 3 150 (.load 33 (.tmp 149)) (.agg K4.toArray) h0 ?_ (y:=(yieldsIf_load_mid (by rfl) _ _ rfl _ _ rfl K4 _ (fun V hV=>range_kept hr4 hV (by simp)) Tryz.underlying33 rfl (uh HI4)))
        (try simp only [Act.put,pq1,pq2,pq3])
        refine tq 4 151 (.move (.tmp 22)) (.slice (some ⟨b2,o2,none⟩) k2 n2c) h0 ?_
        refine tq 5 152 (.move (.tmp 28)) (.int .i64 ((a:Int))) h0 ?_
        refine tq 6 153 (.indexAddr 29 (.tmp 151) (.tmp 152)) (.pointer (some ⟨b2,o2+a*32,none⟩)) h0 ?_
        refine tz 7 154 (.load 33 (.tmp 153)) (.agg K2.toArray) h0 ?_ (y:=(yieldsIf_load_mid (by rfl) _ _ rfl _ _ rfl K2 _ (fun V hV=>range_kept hr2 hV (by simp)) Tryz.underlying33 rfl (uh HI2)))
        (try simp only [Act.put,pq1,pq2,pq3])
        refine tz 8 155 (.binOp .eql 33 (.tmp 150) (.tmp 154) 33) (.bool true) h0 ?_ (y:=(yieldsIf_same (by rfl) _ _ _ _ rfl _ _ _ rfl rfl guard_id (uh HEQ)))
        (try simp only [Act.put,pq1,pq2,pq3])
        refine wpAnyH_done (by kernel_rfl) ?_ _
        refine NoPanic.normal ?_
        go_wp2
        go_roundw
        case rel=>exact ⟨a+1,i+1,by go_num,by go_num,by omega,uh HNX,gb_drew hgw⟩
        case measure=>simp [intOf];omega
       ·have HEQ:Hid (∀ V,(binOp .eql 33 (.agg K4.toArray) (.agg K2.toArray)).run Tryz.prog V = .ok (.bool false) V):=fun V=>by rw [heq];simp [hh]
        have HNX:=hide (hmg.miss (uh HT2R) (uh HT4R) ha hi hh)
        clear heq hh hmg hi ha hrows
        subst e4 e2
        go_upto_region 29 with fail
        refine wp_region_noPanic ?_
        refine wp_region_held_drew (S:=fun V=>wr.grownBy V none) (by kernel_rfl) h0 (fun _ => ?_)
        refine tq 0 147 (.move (.tmp 26)) (.slice (some ⟨b4,o4,none⟩) k4 n4c) h0 ?_
        refine tq 1 148 (.move (.tmp 29)) (.int .i64 ((i:Int))) h0 ?_
        refine tq 2 149 (.indexAddr 29 (.tmp 147) (.tmp 148)) (.pointer (some ⟨b4,o4+i*32,none⟩)) h0 ?_
        refine tz 3 150 (.load 33 (.tmp 149)) (.agg K4.toArray) h0 ?_ (y:=(yieldsIf_load_mid (by rfl) _ _ rfl _ _ rfl K4 _ (fun V hV=>range_kept hr4 hV (by simp)) Tryz.underlying33 rfl (uh HI4)))
        (try simp only [Act.put,pq1,pq2,pq3])
        refine tq 4 151 (.move (.tmp 22)) (.slice (some ⟨b2,o2,none⟩) k2 n2c) h0 ?_
        refine tq 5 152 (.move (.tmp 28)) (.int .i64 ((a:Int))) h0 ?_
        refine tq 6 153 (.indexAddr 29 (.tmp 151) (.tmp 152)) (.pointer (some ⟨b2,o2+a*32,none⟩)) h0 ?_
        refine tz 7 154 (.load 33 (.tmp 153)) (.agg K2.toArray) h0 ?_ (y:=(yieldsIf_load_mid (by rfl) _ _ rfl _ _ rfl K2 _ (fun V hV=>range_kept hr2 hV (by simp)) Tryz.underlying33 rfl (uh HI2)))
        (try simp only [Act.put,pq1,pq2,pq3])
        refine tz 8 155 (.binOp .eql 33 (.tmp 150) (.tmp 154) 33) (.bool false) h0 ?_ (y:=(yieldsIf_same (by rfl) _ _ _ _ rfl _ _ _ rfl rfl guard_id (uh HEQ)))
        (try simp only [Act.put,pq1,pq2,pq3])
        refine wpAnyH_done (by kernel_rfl) ?_ _
        refine NoPanic.normal ?_
        go_wp2
        go_roundw
        case rel=>exact ⟨a,i+1,by go_num,by go_num,by omega,uh HNX,gb_drew hgw⟩
        case measure=>simp [intOf];omega
      ·have hak:a=k2:=by
        by_cases h1:i<k4
        ·omega
        ·have:=hmg.done (by rw [← uh HK4];omega)
         rw [uh HK2];exact this
       have hki:(k2:Int)≤9223372036854775807:=by omega
       have c1:=gone_any wr ((uh HT).kept0 hrows.g)
       have HGF:=hide hrows.g
       subst hak
       clear hmg hrows
       go_upto_region 27 with fail
       go_cut [144] (fun x144 wx=>x144 = .bool false∧wx=wr)
       case first =>
        by_cases h1:i<k4
        ·have h2:¬ a<a:=by omega
         go_wp2
         go_meet
         case rel=>exact ⟨rfl,rfl⟩
        ·go_wp2
         go_meet
         case rel=>exact ⟨rfl,rfl⟩
       case rest =>
        obtain ⟨rfl,hwc⟩:=hcut
        rw [hwc]
        clear hwc
        go_upto_region 31 with fail
        refine region_named fun O hO => ?_
        refine wpList_val (by rw [hO];kernel_rfl) (.int .i64 ((a:Int))) (fun K9 hK9=>by go_simp;exact hK9) ?_
        (try simp only [Act.put,pq1,pq2,pq3])
        refine wpList_val (by rw [hO];kernel_rfl) (.slice n2a a n2c) (fun K9 hK9=>by go_simp;exact hK9) ?_
        (try simp only [Act.put,pq1,pq2,pq3])
        refine wpList_val (by rw [hO];kernel_rfl) (.int .i64 ((a:Int))) (fun K9 hK9=>by go_simp;exact hK9) ?_
        (try simp only [Act.put,pq1,pq2,pq3])
        refine wpList_val (by rw [hO];kernel_rfl) (.bool true) (fun K9 hK9=>by go_simp;exact hK9) ?_
        (try simp only [Act.put,pq1,pq2,pq3])
        refine wpList_val (by rw [hO];kernel_rfl) (.bool true) (fun K9 hK9=>by go_simp;exact hK9) ?_
        (try simp only [Act.put,pq1,pq2,pq3])
        refine wpList_want (by rw [hO];kernel_rfl) fun K9 hK9 => ?_
        go_simp
        go_at_call 20
        refine (c1).mono ?_
        rintro e wz ⟨rfl,gz⟩
        refine hK9 _ _ ?_
        clear hK9 K9
        (try simp only [Act.put,pq1,pq2,pq3])
        refine wpList_val (by rw [hO];kernel_rfl) (.bool true) (fun K9 hK9=>by go_simp;exact hK9) ?_
        (try simp only [Act.put,pq1,pq2,pq3])
        refine wpList_val (by rw [hO];kernel_rfl) (.bool true) (fun K9 hK9=>by go_simp;exact hK9) ?_
        (try simp only [Act.put,pq1,pq2,pq3])
        go_wp2
        go_ret
        exact ⟨rfl,tn (uh HGF) gz⟩
end Go.Proofs.YtlifmipnoeioaaaGreatDoor
