/- Lemmas. -/
import Derived.Test.YtoilcpdhhlcidaaGreatDoorRStG
namespace Go.Proofs.YtoilcpdhhlcidaaGreatDoor
open Go.RowKit
set_option maxRecDepth 100000 in
set_option maxHeartbeats 16000000 in
theorem zo4 (w:World) (ko:Option Addr) (kc:Nat) (vo:Option Addr) (vc:Nat) (s:RSt) (h:RsW w ko kc vo vc s) (hr:RisK s.V) (hn:s.V.length≤100000) (co:Option Addr) (cc:Nat) (l:List Chg) (hc:Rws w 3 crC co cc l) (hl:l.length≤100000) :
  Calls Tryz.prog 33 #[.agg (rsC ko kc vo vc s).toArray,.slice co l.length cc] w fun e w'=>MdP w w' e ko vo s l:=by
 obtain ⟨Z,hZ5,hZs,hzv⟩:=zdv
 obtain ⟨nl,hnl⟩:∃ n,n=l.length:=⟨_,rfl⟩
 obtain ⟨CS0,hCS0⟩:∃ C,C=rsC ko kc vo vc s:=⟨_,rfl⟩
 rw[← hCS0,← hnl]
 obtain ⟨W1,hW1,hB1,g1⟩:=zah w 32 CS0
 obtain ⟨W2,hW2,hB2,g2⟩:=zah W1 32 Z.toList
 have s1:W1.heap.size=w.heap.size+1:=by rw[hW1,World.size_alloc]
 rw[s1] at hB2
 have HW2:=hide (show W2=(w.alloc (.cells CS0.toArray 32)).alloc (.cells Z 32) by rw[hW2,hW1,Array.toArray_toList])
 have HZ:=hide (show Z.size=5 from hZ5)
 obtain ⟨HZS,HNL,HC,HRIS,HN⟩:=zh5 hZs hnl hc hr hn
 have hnl1:nl≤100000:=by omega
 have HI0:=hide (show MdI w W2 Z.toList ko vo s (zal s.V (l.take 0)) from ⟨ko,kc,vo,vc,by rw[hCS0] at hB1;exact hB1.kept g2 (by simp),(h.kept g1).kept g2,Fre.refl _ _ _,Fre.refl _ _ _,hB2,tn g1 g2⟩)
 have HIE0:=hide (show (Tryz.prog.info? 32).map (·.size)=some CS0.length by rw[hCS0];exact zas)
 clear hW1 hW2 hB1 hB2 g1 g2 s1 hnl hc hr hn hZ5 hZs h hl hCS0
 go_enter Tryz.func33,Tryz.ntmps33
 go_wp2_with (rw[← uh HW2])
 go_loopw [5] (fun i wr=>∃ j:Nat,i = .int .i64 j∧j≤nl∧Hid (MdI w wr Z.toList ko vo s (zal s.V (l.take j)))) (fun i _=>nl - (intOf i).toNat)
 case atStart=>exact ⟨0,rfl,Nat.zero_le _,HI0⟩
 case round =>
  obtain ⟨wo,hwo⟩:∃ W,W=wr:=⟨_,rfl⟩
  subst hwo
  obtain ⟨j,rfl,hj,HJ⟩:=hrel
  obtain ⟨V,hV⟩:∃ V,V=zal s.V (l.take j):=⟨_,rfl⟩
  obtain ⟨ka,kc,va,vc,hB,hR,hf1,hf2,hZ2,hg⟩:=uh HJ
  rw[← hV] at hB hR
  obtain ⟨n,hnn⟩:∃ n,n=V.length:=⟨_,rfl⟩
  have hn2:n≤200000:=by have h1:=zer (l.take j) s.V;have h2:=uh HN;rw[List.length_take] at h1;rw[hnn,hV];omega
  have hris:RisK V:=by rw[hV];exact zbw _ (uh HRIS)
  obtain ⟨CS,hCS⟩:∃ C,C=rsC ka kc va vc { s with V:=V }:=⟨_,rfl⟩
  have HIE:=hide (show (Tryz.prog.info? 32).map (·.size)=some CS.length by rw[hCS];exact zas)
  by_cases hlt:j<nl
  ·have hji:(j:Int)<(nl:Int):=by omega
   have hjw:IntKind.i64.wrap ((j:Int)+1)=(j:Int)+1:=by rw[IntKind.wrap_i64];omega
   have hjl:j<l.length:=by rw[← uh HNL];exact hlt
   obtain ⟨lb,lo,hao,hrow⟩:=(uh HC).at j hjl
   obtain ⟨c,hcd⟩:∃ c,c=l[j]:=⟨_,rfl⟩
   rw[← hcd] at hrow
   obtain ⟨kk,hkk⟩:∃ k,k=c.key:=⟨_,rfl⟩
   obtain ⟨kx,hkx⟩:∃ k,k=c.value:=⟨_,rfl⟩
   obtain ⟨gn,hgn⟩:∃ k,k=c.gone:=⟨_,rfl⟩
   obtain ⟨TK,hTK⟩:∃ T,T=str kk:=⟨_,rfl⟩
   obtain ⟨TX,hTX⟩:∃ T,T=str kx:=⟨_,rfl⟩
   have q0:w.cell? ⟨lb,lo+j*3,none⟩=some (.string TK):=by have:=hrow 0 _ rfl;rw[hTK,hkk];simpa using this
   have q1:w.cell? ⟨lb,lo+j*3+1,none⟩=some (.string TX):=by have:=hrow 1 _ rfl;rw[hTX,hkx];exact this
   have q2:w.cell? ⟨lb,lo+j*3+2,none⟩=some (.bool gn):=by have:=hrow 2 _ rfl;rw[hgn];exact this
   have HCK:=hide (hg.cell q0 (by simp))
   have HCX:=hide (hg.cell q1 (by simp))
   obtain ⟨W3,hW3,hB3,g3⟩:=zbu wo 32 Z CS
   rw[hCS] at hB3
   have w0:=hB3.cell 0
   have z0:=hB3.fz 0
   unfold rsC at w0
   simp only[List.getElem?_cons_zero] at w0
   obtain ⟨W4,hW4⟩:∃ W,W=W3.setCell ⟨wo.heap.size,0,none⟩ (.slice none 0 0):=⟨_,rfl⟩
   have hB4:=hB3.set 0 (.slice none 0 0)
   rw[← hW4] at hB4
   have w1:=hB4.cell 1
   have z1:=hB4.fz 1
   unfold rsC at w1
   simp only[List.set_cons_zero,List.getElem?_cons_succ,List.getElem?_cons_zero] at w1
   obtain ⟨W5,hW5⟩:∃ W,W=W4.setCell ⟨wo.heap.size,1,none⟩ (.slice none 0 0):=⟨_,rfl⟩
   have hB5:=hB4.set 1 (.slice none 0 0)
   rw[← hW5] at hB5
   obtain ⟨h1,hh1⟩:∃ z:Int,z=(s.half:Int):=⟨_,rfl⟩
   obtain ⟨h2,hh2⟩:∃ z:Int,z=(s.used:Int):=⟨_,rfl⟩
   obtain ⟨h3,hh3⟩:∃ z:Int,z=(s.moves:Int):=⟨_,rfl⟩
   have g5:wo.grownBy W5 none:=by
    rw[hW5,hW4]
    exact zae (zae g3 (zbs W3 wo.heap.size 0 _) (fun x e=>by cases e;exact Or.inl (Nat.le_refl _))) (zbs _ wo.heap.size 1 _) (fun x e=>by cases e;exact Or.inl (Nat.le_refl _))
   have HO5:=hide (show OutW W5 wo.heap.size wo.heap.size (zao []) (zax []) h1 h2 h3 (.slice none 0 0) (.slice none 0 0) from ⟨Nat.le_refl _,by rw[hh1,hh2,hh3];exact hB5,Stg.nil _ _,Stg.nil _ _,fun x e=>by cases e⟩)
   have HU5:=hide g5
   have q2w:=g5.cell (hg.cell q2 (by simp)) (by simp)
   have c0:=hB.cell 0
   have c1:=hB.cell 1
   unfold rsC at c0 c1
   simp only[List.getElem?_cons_zero,List.getElem?_cons_succ] at c0 c1
   rw[← hnn] at c0 c1
   obtain ⟨HC0,HC1,HTK,HTX,HKK,HKX⟩:=zh6 c0 c1 hTK hTX hkk hkx
   have HGN:=hide hgn
   have HTA:=hide (show zal s.V (l.take (j+1))=zbr V c by rw[List.take_succ_eq_append_getElem hjl,← hcd,hV];unfold zal;rw[List.foldl_append];rfl)
   obtain ⟨HB,HR,HZ2,HG,HF1,HF2⟩:=zh6 hB hR hZ2 hg hf1 hf2
   obtain ⟨HV,HNN,HRV⟩:=zh3 hV hnn hris
   have HH:=hide (And.intro hh1 (And.intro hh2 hh3))
   have HCS:=hide hCS
   have HBZ:=hide (show Blk (wo.alloc (.cells Z 32)) wo.heap.size 32 Z.toList by simpa using Blk.new wo 32 Z.toList)
   have HZE:=hide (show Z.toList.toArray.size=CS.toArray.size by rw[hCS,Array.toArray_toList,uh HZ];rfl)
   have HEO:=hide (show CS.toArray.all (·.oneCell')=true by rw[hCS];exact zbz _ _ _ _ _)
   obtain ⟨HW3,HW4,HW5⟩:=zh3 hW3 hW4 hW5
   have hr1:wo.rangeAt w.heap.size 0 CS:=by rw[hCS];exact zan hB
   clear hTK hTX hkk hkx hgn hcd hB hR hZ2 hg hf1 hf2 hV hnn hris hh1 hh2 hh3 hCS q0 q1 q2 c0 c1 hB3 hB4 hB5 g3 g5 hW3 hW4 hW5 hrow hjl HJ
   subst hao
   go_upto_region 5 with (first
    | (refine wpList_load_mid rfl 32 _ rfl w.heap.size 0 rfl CS _ hr1 Tryz.underlying32 rfl (uh HIE) ?_;clear hr1)
    | (have hB9:=uh HBZ;refine wpList_store_row rfl 32 _ _ rfl wo.heap.size CS.toArray rfl rfl _ _ hB9 (by simpa using uh HIE) (uh HZE) (uh HEO) ?_;clear hB9;rw[← uh HW3]))
   go_wp2_with (first
    | (rw[← uh HW4])
    | (rw[← uh HW5]))
   go_loopw [7,8] (fun dv kv wr=>∃ (q:Nat) (P:List (List UInt8 × List UInt8)) (dn:Bool) (vk vv:Value),dv = .bool dn∧kv = .int .i64 q∧q≤n∧P.length≤2*q∧Hid ((V.take q).foldl (zbd c) ([],c.gone)=(P,dn)∧OutW wr wo.heap.size wo.heap.size (zao P) (zax P) h1 h2 h3 vk vv∧wo.grownBy wr none)) (fun _ k _=>n - (intOf k).toNat)
   case atStart=>exact ⟨0,[],gn,_,_,rfl,rfl,Nat.zero_le _,Nat.zero_le _,hide ⟨by rw[uh HGN];rfl,uh HO5,uh HU5⟩⟩
   case round =>
    obtain ⟨q,P,dn,vk,vv,rfl,rfl,hq,hP,HI⟩:=hrel
    have HO:=hide (uh HI).2.1
    have HU:=hide (uh HI).2.2
    have c0r:=(uh HU).cell (uh HC0) (by simp)
    by_cases hqn:q<n
    ·have hqi:(q:Int)<(n:Int):=by omega
     have hqw:IntKind.i64.wrap ((q:Int)+1)=(q:Int)+1:=by rw[IntKind.wrap_i64];omega
     have hqV:q<V.length:=by rw[← uh HNN];exact hqn
     obtain ⟨kb,kz,hka,hk⟩:=(uh HR).keys.at q (by show q<(kyC V).length;unfold kyC;rw[List.length_map];exact hqV)
     obtain ⟨vb,vz,hva,hv⟩:=(uh HR).vals.at q (by show q<(vlC V).length;unfold vlC;rw[List.length_map];exact hqV)
     obtain ⟨ky,hky⟩:∃ k,k=V[q].1:=⟨_,rfl⟩
     obtain ⟨vy,hvy⟩:∃ k,k=V[q].2:=⟨_,rfl⟩
     obtain ⟨TY,hTY⟩:∃ T,T=str ky:=⟨_,rfl⟩
     obtain ⟨TV,hTV⟩:∃ T,T=str vy:=⟨_,rfl⟩
     have hk2:wo.cell? ⟨kb,kz+q,none⟩=some (.string TY):=by rw[hk];unfold kyC;rw[List.getElem_map,hTY,hky]
     have hv2:wo.cell? ⟨vb,vz+q,none⟩=some (.string TV):=by rw[hv];unfold vlC;rw[List.getElem_map,hTV,hvy]
     have hyq:V[q]=(ky,vy):=by rw[hky,hvy]
     have hst:=zrv hqV (uh HI).1
     rw[hyq] at hst
     have e1:TK.toList=kk:=by rw[uh HTK,zbt]
     have e2:TY.toList=ky:=by rw[hTY,zbt]
     obtain ⟨HYK,HYV,HTY,HTV⟩:=zh4 hk2 hv2 hTY hTV
     clear hk hv hky hvy hTY hTV hk2 hv2 hyq hqV
     subst hka hva
     by_cases hle:dn=false∧zbv kk ky=true
     ·obtain ⟨rfl,hls⟩:=hle
      have HLS:=hide (show Op.bytesLess TY.toList TK.toList=false∧¬ TY.toList=TK.toList by rw[e1,e2];exact ⟨zf2 _ _ hls,fun e=>by rw[e,zda] at hls;cases hls⟩)
      have HNE:=hide (uh HLS).2
      have HST:=hide (show (V.take (q+1)).foldl (zbd c) ([],c.gone)=((P++[(kk,kx)])++[(ky,vy)],true) by rw[hst,zrw (by rw[← uh HKK];exact hls),← uh HKK,← uh HKX])
      clear hst e1 e2 hls
      go_upto_region 11 with fail
      refine wp_region_noPanic ?_
      refine wp_region_held_drew (S:=fun V=>wo.grownBy V none) (by kernel_rfl) (zaa (uh HU)) (fun _ => ?_)
      refine tq 0 30 (.move (.tmp 7)) ((.bool false)) (zaa (uh HU)) ?_
      refine tq 1 31 (.unOp .not 4 (.tmp 30)) ((.bool true)) (zaa (uh HU)) ?_
      refine tq 2 32 (.move (.tmp 31)) ((.bool true)) (zaa (uh HU)) ?_
      refine tq 3 33 (.fieldAddr 32 (.tmp 2) 0) ((.pointer (some ⟨w.heap.size,0,none⟩))) (zaa (uh HU)) ?_
      (try simp only[pq])
      refine tz 4 34 (.load 30 (.tmp 33)) ((.slice (some ⟨kb,kz,none⟩) n kc)) (zaa (uh HU)) ?_ (y:=(Or.inl ⟨by rfl,fun V hV=>by (have hv1:=hV.cell (uh HC0) (by simp);go_simp)⟩))
      refine tq 5 35 (.move (.tmp 8)) ((.int .i64 (q:Int))) (zaa (uh HU)) ?_
      refine tq 6 36 (.indexAddr 30 (.tmp 34) (.tmp 35)) ((.pointer (some ⟨kb,kz+q,none⟩))) (zaa (uh HU)) ?_
      refine tz 7 37 (.load 9 (.tmp 36)) ((.string TY)) (zaa (uh HU)) ?_ (y:=(Or.inl ⟨by rfl,fun V hV=>by (have hv1:=hV.cell (uh HYK) (by simp);go_simp)⟩))
      (try simp only[pq])
      refine tq 8 38 (.move (.tmp 1)) ((.slice (some ⟨lb,lo,none⟩) nl cc)) (zaa (uh HU)) ?_
      refine tq 9 39 (.move (.tmp 5)) ((.int .i64 (j:Int))) (zaa (uh HU)) ?_
      refine tq 10 40 (.indexAddr 40 (.tmp 38) (.tmp 39)) ((.pointer (some ⟨lb,lo+j*3,none⟩))) (zaa (uh HU)) ?_
      refine tq 11 41 (.fieldAddr 85 (.tmp 40) 0) ((.pointer (some ⟨lb,lo+j*3,none⟩))) (zaa (uh HU)) ?_
      (try simp only[pq])
      refine tz 12 42 (.load 9 (.tmp 41)) ((.string TK)) (zaa (uh HU)) ?_ (y:=(Or.inl ⟨by rfl,fun V hV=>by (have hv1:=hV.cell (uh HCK) (by simp);go_simp)⟩))
      refine tz 13 43 (.binOp .gtr 9 (.tmp 37) (.tmp 42) 9) ((.bool true)) (zaa (uh HU)) ?_ (y:=(Or.inl ⟨by rfl,fun V hV=>by (have hv1:=uh HLS;go_simp)⟩))
      refine tq 14 44 (.pick (.tmp 32) (.tmp 43) (.const (.bool false))) ((.bool true)) (zaa (uh HU)) ?_
      (try simp only[pq])
      refine wpAnyH_done (by kernel_rfl) ?_ _
      refine NoPanic.normal ?_
      have HO11:=hide ((uh HO).nn (zaa (zac wr none)))
      have HU11:=hide (zaa (uh HU))
      obtain ⟨W11,hW11⟩:∃ V,V=wr.drew:=⟨_,rfl⟩
      rw[← hW11]
      rw[← hW11] at HO11 HU11
      clear hW11
      go_upto_region 12 with fail
      go_cut [] (fun wx=>∃ v9:Value,OutW wx wo.heap.size wo.heap.size (zao P++[kk]) (zax P) h1 h2 h3 v9 vv∧wo.grownBy wx none)
      case first =>
       as_aux_lemma =>
       have ho:=(uh HO11).nn (zaa (zac W11 none))
       have hu:=zaa (uh HU11)
       refine wp_region_noPanic ?_
       refine wp_region_held_drew (S:=fun V=>wo.grownBy V none) (by kernel_rfl) hu (fun _ => ?_)
       obtain ⟨WD,hWD⟩:∃ V,V=W11.drew:=⟨_,rfl⟩
       rw[← hWD]
       rw[← hWD] at ho hu
       clear hWD
       refine tq 0 45 (.fieldAddr 32 (.tmp 6) 0) ((.pointer (some ⟨wo.heap.size,0,none⟩))) hu ?_
       refine tq 2 47 (.move (.tmp 1)) ((.slice (some ⟨lb,lo,none⟩) nl cc)) hu ?_
       refine tq 3 48 (.move (.tmp 5)) ((.int .i64 (j:Int))) hu ?_
       refine tq 4 49 (.indexAddr 40 (.tmp 47) (.tmp 48)) ((.pointer (some ⟨lb,lo+j*3,none⟩))) hu ?_
       (try simp only[pq])
       refine tq 5 50 (.fieldAddr 85 (.tmp 49) 0) ((.pointer (some ⟨lb,lo+j*3,none⟩))) hu ?_
       refine tz 6 51 (.load 9 (.tmp 50)) ((.string TK)) hu ?_ (y:=(Or.inl ⟨by rfl,fun V hV=>by (have hv1:=hV.cell (uh HCK) (by simp);go_simp)⟩))
       (try simp only[pq])
       refine wpAnyH_ready (rs:=[1,7]) (by kernel_rfl) (by simp) ?_
       refine AllReadyH.cons (o:=⟨some 46,.load 30 (.tmp 45),_,_,_,_⟩) rfl (fun K9 hK9 => ?_) (AllReadyH.cons (o:=⟨some 52,.buildSlice 30 1 #[(0,(.tmp 51))],_,_,_,_⟩) rfl (fun K9 hK9 => ?_) AllReadyH.nil)
       ·have q1:=(ho).blk.cell 0
        simp only[List.getElem?_cons_zero] at q1
        go_simp
        clear q1
        refine hK9.out _ _ hu (fun _ => ?_)
        clear hK9 K9
        (try simp only[pq])
        refine rdq 7 (some 52) (.buildSlice 30 1 #[(0,(.tmp 51))]) (fun K9 hK9 => ?_)
        obtain ⟨w2,hw2,e2,g2⟩:=zah WD 9 [.string TK]
        have z9:=zbb TK WD
        go_simp
        clear z9
        rw[← hw2]
        have o2:=(ho).nn g2
        have hu2:=tn hu g2
        rw[show Value.string TK=stv kk by rw[uh HTK];rfl] at e2
        refine hK9.out _ _ hu2 (fun _ => ?_)
        clear hK9 K9 hw2
        (try simp only[pq])
        refine rdq 8 (some 53) (.call { callee := .builtin .append,args := #[(.tmp 46),(.tmp 52)],argTypes := #[30,30] }) (fun K9 hK9 => ?_)
        refine zag (by rfl) _ _ rfl wo.heap.size (vk) (zao P) rfl (o2).keys _ kk e2 rfl (by simp[zao];omega) (hu2).size ?_
        intro g3 c3 w3 o3 g3g hat hlt
        obtain ⟨v9,hv9⟩:∃ v,v=Value.slice (some ⟨g3,0,none⟩) ((zao P).length+1) c3:=⟨_,rfl⟩
        rw[← hv9] at o3 ⊢
        obtain ⟨hu3,hb3,ho9,hu9⟩:=(o2).key hu2 hv9 o3 g3g hat
        subst hv9
        generalize (zao P).length+1=nq at hu9 ho9 ⊢
        refine hK9.out _ _ hu3 (fun _ => ?_)
        clear hK9 K9
        refine tq 9 54 (.fieldAddr 32 (.tmp 6) 0) ((.pointer (some ⟨wo.heap.size,0,none⟩))) hu3 ?_
        (try simp only[pq])
        refine rdq 10 none (.store 30 (.tmp 54) (.tmp 53)) (fun K9 hK9 => ?_)
        have q1:=hb3.cell 0
        simp only[List.getElem?_cons_zero] at q1
        have f1:=hb3.fz 0
        go_simp
        clear q1 f1
        refine hK9.out _ _ hu9 (fun _ => ?_)
        clear hK9 K9
        (try simp only[pq])
        refine wpAnyH_done (by kernel_rfl) ?_ _
        refine NoPanic.normal ?_
        go_wp2_with fail
        go_meet
        case rel=>exact ⟨_,ho9,hu9⟩
       ·obtain ⟨w2,hw2,e2,g2⟩:=zah WD 9 [.string TK]
        have z9:=zbb TK WD
        go_simp
        clear z9
        rw[← hw2]
        have o2:=(ho).nn g2
        have hu2:=tn hu g2
        rw[show Value.string TK=stv kk by rw[uh HTK];rfl] at e2
        refine hK9.out _ _ hu2 (fun _ => ?_)
        clear hK9 K9 hw2
        (try simp only[pq])
        refine rdq 1 (some 46) (.load 30 (.tmp 45)) (fun K9 hK9 => ?_)
        have q1:=(o2).blk.cell 0
        simp only[List.getElem?_cons_zero] at q1
        go_simp
        clear q1
        refine hK9.out _ _ hu2 (fun _ => ?_)
        clear hK9 K9
        (try simp only[pq])
        refine rdq 8 (some 53) (.call { callee := .builtin .append,args := #[(.tmp 46),(.tmp 52)],argTypes := #[30,30] }) (fun K9 hK9 => ?_)
        refine zag (by rfl) _ _ rfl wo.heap.size (vk) (zao P) rfl (o2).keys _ kk e2 rfl (by simp[zao];omega) (hu2).size ?_
        intro g3 c3 w3 o3 g3g hat hlt
        obtain ⟨v9,hv9⟩:∃ v,v=Value.slice (some ⟨g3,0,none⟩) ((zao P).length+1) c3:=⟨_,rfl⟩
        rw[← hv9] at o3 ⊢
        obtain ⟨hu3,hb3,ho9,hu9⟩:=(o2).key hu2 hv9 o3 g3g hat
        subst hv9
        generalize (zao P).length+1=nq at hu9 ho9 ⊢
        refine hK9.out _ _ hu3 (fun _ => ?_)
        clear hK9 K9
        refine tq 9 54 (.fieldAddr 32 (.tmp 6) 0) ((.pointer (some ⟨wo.heap.size,0,none⟩))) hu3 ?_
        (try simp only[pq])
        refine rdq 10 none (.store 30 (.tmp 54) (.tmp 53)) (fun K9 hK9 => ?_)
        have q1:=hb3.cell 0
        simp only[List.getElem?_cons_zero] at q1
        have f1:=hb3.fz 0
        go_simp
        clear q1 f1
        refine hK9.out _ _ hu9 (fun _ => ?_)
        clear hK9 K9
        (try simp only[pq])
        refine wpAnyH_done (by kernel_rfl) ?_ _
        refine NoPanic.normal ?_
        go_wp2_with fail
        go_meet
        case rel=>exact ⟨_,ho9,hu9⟩
      case rest =>
       obtain ⟨v12,ho12,hu12⟩:=hcut
       obtain ⟨W12,hW12⟩:∃ W,W=wc:=⟨_,rfl⟩
       rw[← hW12]
       rw[← hW12] at ho12 hu12
       obtain ⟨HO12,HU12⟩:=zh2 ho12 hu12
       clear ho12 hu12 hW12
       go_upto_region 13 with fail
       go_cut [] (fun wx=>∃ v9:Value,OutW wx wo.heap.size wo.heap.size (zao P++[kk]) (zax P++[kx]) h1 h2 h3 v12 v9∧wo.grownBy wx none)
       case first =>
        as_aux_lemma =>
        have ho:=(uh HO12).nn (zaa (zac W12 none))
        have hu:=zaa (uh HU12)
        refine wp_region_noPanic ?_
        refine wp_region_held_drew (S:=fun V=>wo.grownBy V none) (by kernel_rfl) hu (fun _ => ?_)
        obtain ⟨WD,hWD⟩:∃ V,V=W12.drew:=⟨_,rfl⟩
        rw[← hWD]
        rw[← hWD] at ho hu
        clear hWD
        refine tq 0 55 (.fieldAddr 32 (.tmp 6) 1) ((.pointer (some ⟨wo.heap.size,1,none⟩))) hu ?_
        refine tq 2 57 (.move (.tmp 1)) ((.slice (some ⟨lb,lo,none⟩) nl cc)) hu ?_
        refine tq 3 58 (.move (.tmp 5)) ((.int .i64 (j:Int))) hu ?_
        refine tq 4 59 (.indexAddr 40 (.tmp 57) (.tmp 58)) ((.pointer (some ⟨lb,lo+j*3,none⟩))) hu ?_
        (try simp only[pq])
        refine tq 5 60 (.fieldAddr 85 (.tmp 59) 1) ((.pointer (some ⟨lb,lo+j*3+1,none⟩))) hu ?_
        refine tz 6 61 (.load 9 (.tmp 60)) ((.string TX)) hu ?_ (y:=(Or.inl ⟨by rfl,fun V hV=>by (have hv1:=hV.cell (uh HCX) (by simp);go_simp)⟩))
        (try simp only[pq])
        refine wpAnyH_ready (rs:=[1,7]) (by kernel_rfl) (by simp) ?_
        refine AllReadyH.cons (o:=⟨some 56,.load 30 (.tmp 55),_,_,_,_⟩) rfl (fun K9 hK9 => ?_) (AllReadyH.cons (o:=⟨some 62,.buildSlice 30 1 #[(0,(.tmp 61))],_,_,_,_⟩) rfl (fun K9 hK9 => ?_) AllReadyH.nil)
        ·have q1:=(ho).blk.cell 1
         simp only[List.getElem?_cons_zero,List.getElem?_cons_succ] at q1
         go_simp
         clear q1
         refine hK9.out _ _ hu (fun _ => ?_)
         clear hK9 K9
         (try simp only[pq])
         refine rdq 7 (some 62) (.buildSlice 30 1 #[(0,(.tmp 61))]) (fun K9 hK9 => ?_)
         obtain ⟨w2,hw2,e2,g2⟩:=zah WD 9 [.string TX]
         have z9:=zbb TX WD
         go_simp
         clear z9
         rw[← hw2]
         have o2:=(ho).nn g2
         have hu2:=tn hu g2
         rw[show Value.string TX=stv kx by rw[uh HTX];rfl] at e2
         refine hK9.out _ _ hu2 (fun _ => ?_)
         clear hK9 K9 hw2
         (try simp only[pq])
         refine rdq 8 (some 63) (.call { callee := .builtin .append,args := #[(.tmp 56),(.tmp 62)],argTypes := #[30,30] }) (fun K9 hK9 => ?_)
         refine zag (by rfl) _ _ rfl wo.heap.size (vv) (zax P) rfl (o2).vals _ kx e2 rfl (by simp[zax];omega) (hu2).size ?_
         intro g3 c3 w3 o3 g3g hat hlt
         obtain ⟨v9,hv9⟩:∃ v,v=Value.slice (some ⟨g3,0,none⟩) ((zax P).length+1) c3:=⟨_,rfl⟩
         rw[← hv9] at o3 ⊢
         obtain ⟨hu3,hb3,ho9,hu9⟩:=(o2).val hu2 hv9 o3 g3g hat
         subst hv9
         generalize (zax P).length+1=nq at hu9 ho9 ⊢
         refine hK9.out _ _ hu3 (fun _ => ?_)
         clear hK9 K9
         refine tq 9 64 (.fieldAddr 32 (.tmp 6) 1) ((.pointer (some ⟨wo.heap.size,1,none⟩))) hu3 ?_
         (try simp only[pq])
         refine rdq 10 none (.store 30 (.tmp 64) (.tmp 63)) (fun K9 hK9 => ?_)
         have q1:=hb3.cell 1
         simp only[List.getElem?_cons_zero,List.getElem?_cons_succ] at q1
         have f1:=hb3.fz 1
         go_simp
         clear q1 f1
         refine hK9.out _ _ hu9 (fun _ => ?_)
         clear hK9 K9
         (try simp only[pq])
         refine wpAnyH_done (by kernel_rfl) ?_ _
         refine NoPanic.normal ?_
         go_wp2_with fail
         go_meet
         case rel=>exact ⟨_,ho9,hu9⟩
        ·obtain ⟨w2,hw2,e2,g2⟩:=zah WD 9 [.string TX]
         have z9:=zbb TX WD
         go_simp
         clear z9
         rw[← hw2]
         have o2:=(ho).nn g2
         have hu2:=tn hu g2
         rw[show Value.string TX=stv kx by rw[uh HTX];rfl] at e2
         refine hK9.out _ _ hu2 (fun _ => ?_)
         clear hK9 K9 hw2
         (try simp only[pq])
         refine rdq 1 (some 56) (.load 30 (.tmp 55)) (fun K9 hK9 => ?_)
         have q1:=(o2).blk.cell 1
         simp only[List.getElem?_cons_zero,List.getElem?_cons_succ] at q1
         go_simp
         clear q1
         refine hK9.out _ _ hu2 (fun _ => ?_)
         clear hK9 K9
         (try simp only[pq])
         refine rdq 8 (some 63) (.call { callee := .builtin .append,args := #[(.tmp 56),(.tmp 62)],argTypes := #[30,30] }) (fun K9 hK9 => ?_)
         refine zag (by rfl) _ _ rfl wo.heap.size (vv) (zax P) rfl (o2).vals _ kx e2 rfl (by simp[zax];omega) (hu2).size ?_
         intro g3 c3 w3 o3 g3g hat hlt
         obtain ⟨v9,hv9⟩:∃ v,v=Value.slice (some ⟨g3,0,none⟩) ((zax P).length+1) c3:=⟨_,rfl⟩
         rw[← hv9] at o3 ⊢
         obtain ⟨hu3,hb3,ho9,hu9⟩:=(o2).val hu2 hv9 o3 g3g hat
         subst hv9
         generalize (zax P).length+1=nq at hu9 ho9 ⊢
         refine hK9.out _ _ hu3 (fun _ => ?_)
         clear hK9 K9
         refine tq 9 64 (.fieldAddr 32 (.tmp 6) 1) ((.pointer (some ⟨wo.heap.size,1,none⟩))) hu3 ?_
         (try simp only[pq])
         refine rdq 10 none (.store 30 (.tmp 64) (.tmp 63)) (fun K9 hK9 => ?_)
         have q1:=hb3.cell 1
         simp only[List.getElem?_cons_zero,List.getElem?_cons_succ] at q1
         have f1:=hb3.fz 1
         go_simp
         clear q1 f1
         refine hK9.out _ _ hu9 (fun _ => ?_)
         clear hK9 K9
         (try simp only[pq])
         refine wpAnyH_done (by kernel_rfl) ?_ _
         refine NoPanic.normal ?_
         go_wp2_with fail
         go_meet
         case rel=>exact ⟨_,ho9,hu9⟩
       case rest =>
        obtain ⟨v13,ho13,hu13⟩:=hcut
        obtain ⟨W13,hW13⟩:∃ W,W=wc:=⟨_,rfl⟩
        rw[← hW13]
        rw[← hW13] at ho13 hu13
        obtain ⟨HO13,HU13⟩:=zh2 ho13 hu13
        clear ho13 hu13 hW13
        go_upto_region 15 with fail
        refine wp_region_noPanic ?_
        refine wp_region_held_drew (S:=fun V=>wo.grownBy V none) (by kernel_rfl) (zaa (uh HU13)) (fun _ => ?_)
        refine tq 0 65 (.fieldAddr 32 (.tmp 2) 0) ((.pointer (some ⟨w.heap.size,0,none⟩))) (zaa (uh HU13)) ?_
        refine tz 1 66 (.load 30 (.tmp 65)) ((.slice (some ⟨kb,kz,none⟩) n kc)) (zaa (uh HU13)) ?_ (y:=(Or.inl ⟨by rfl,fun V hV=>by (have hv1:=hV.cell (uh HC0) (by simp);go_simp)⟩))
        refine tq 2 67 (.move (.tmp 8)) ((.int .i64 (q:Int))) (zaa (uh HU13)) ?_
        refine tq 3 68 (.indexAddr 30 (.tmp 66) (.tmp 67)) ((.pointer (some ⟨kb,kz+q,none⟩))) (zaa (uh HU13)) ?_
        (try simp only[pq])
        refine tz 4 69 (.load 9 (.tmp 68)) ((.string TY)) (zaa (uh HU13)) ?_ (y:=(Or.inl ⟨by rfl,fun V hV=>by (have hv1:=hV.cell (uh HYK) (by simp);go_simp)⟩))
        refine tq 5 70 (.move (.tmp 1)) ((.slice (some ⟨lb,lo,none⟩) nl cc)) (zaa (uh HU13)) ?_
        refine tq 6 71 (.move (.tmp 5)) ((.int .i64 (j:Int))) (zaa (uh HU13)) ?_
        refine tq 7 72 (.indexAddr 40 (.tmp 70) (.tmp 71)) ((.pointer (some ⟨lb,lo+j*3,none⟩))) (zaa (uh HU13)) ?_
        (try simp only[pq])
        refine tq 8 73 (.fieldAddr 85 (.tmp 72) 0) ((.pointer (some ⟨lb,lo+j*3,none⟩))) (zaa (uh HU13)) ?_
        refine tz 9 74 (.load 9 (.tmp 73)) ((.string TK)) (zaa (uh HU13)) ?_ (y:=(Or.inl ⟨by rfl,fun V hV=>by (have hv1:=hV.cell (uh HCK) (by simp);go_simp)⟩))
        refine tz 10 75 (.binOp .neq 9 (.tmp 69) (.tmp 74) 9) ((.bool true)) (zaa (uh HU13)) ?_ (y:=(Or.inl ⟨by rfl,fun V hV=>by (have hv1:=uh HNE;go_simp)⟩))
        (try simp only[pq])
        refine wpAnyH_done (by kernel_rfl) ?_ _
        refine NoPanic.normal ?_
        have HO15:=hide ((uh HO13).nn (zaa (zac W13 none)))
        have HU15:=hide (zaa (uh HU13))
        obtain ⟨W15,hW15⟩:∃ V,V=W13.drew:=⟨_,rfl⟩
        rw[← hW15]
        rw[← hW15] at HO15 HU15
        clear hW15
        go_upto_region 16 with fail
        go_cut [] (fun wx=>∃ v9:Value,OutW wx wo.heap.size wo.heap.size (zao P++[kk]++[ky]) (zax P++[kx]) h1 h2 h3 v9 v13∧wo.grownBy wx none)
        case first =>
         as_aux_lemma =>
         have ho:=(uh HO15).nn (zaa (zac W15 none))
         have hu:=zaa (uh HU15)
         refine wp_region_noPanic ?_
         refine wp_region_held_drew (S:=fun V=>wo.grownBy V none) (by kernel_rfl) hu (fun _ => ?_)
         obtain ⟨WD,hWD⟩:∃ V,V=W15.drew:=⟨_,rfl⟩
         rw[← hWD]
         rw[← hWD] at ho hu
         clear hWD
         refine tq 0 76 (.fieldAddr 32 (.tmp 6) 0) ((.pointer (some ⟨wo.heap.size,0,none⟩))) hu ?_
         refine tq 2 78 (.fieldAddr 32 (.tmp 2) 0) ((.pointer (some ⟨w.heap.size,0,none⟩))) hu ?_
         refine tq 4 80 (.move (.tmp 8)) ((.int .i64 (q:Int))) hu ?_
         refine tz 3 79 (.load 30 (.tmp 78)) ((.slice (some ⟨kb,kz,none⟩) n kc)) hu ?_ (y:=(Or.inl ⟨by rfl,fun V hV=>by (have hv1:=hV.cell (uh HC0) (by simp);go_simp)⟩))
         (try simp only[pq])
         refine tq 5 81 (.indexAddr 30 (.tmp 79) (.tmp 80)) ((.pointer (some ⟨kb,kz+q,none⟩))) hu ?_
         refine tz 6 82 (.load 9 (.tmp 81)) ((.string TY)) hu ?_ (y:=(Or.inl ⟨by rfl,fun V hV=>by (have hv1:=hV.cell (uh HYK) (by simp);go_simp)⟩))
         (try simp only[pq])
         refine wpAnyH_ready (rs:=[1,7]) (by kernel_rfl) (by simp) ?_
         refine AllReadyH.cons (o:=⟨some 77,.load 30 (.tmp 76),_,_,_,_⟩) rfl (fun K9 hK9 => ?_) (AllReadyH.cons (o:=⟨some 83,.buildSlice 30 1 #[(0,(.tmp 82))],_,_,_,_⟩) rfl (fun K9 hK9 => ?_) AllReadyH.nil)
         ·have q1:=(ho).blk.cell 0
          simp only[List.getElem?_cons_zero] at q1
          go_simp
          clear q1
          refine hK9.out _ _ hu (fun _ => ?_)
          clear hK9 K9
          (try simp only[pq])
          refine rdq 7 (some 83) (.buildSlice 30 1 #[(0,(.tmp 82))]) (fun K9 hK9 => ?_)
          obtain ⟨w2,hw2,e2,g2⟩:=zah WD 9 [.string TY]
          have z9:=zbb TY WD
          go_simp
          clear z9
          rw[← hw2]
          have o2:=(ho).nn g2
          have hu2:=tn hu g2
          rw[show Value.string TY=stv ky by rw[uh HTY];rfl] at e2
          refine hK9.out _ _ hu2 (fun _ => ?_)
          clear hK9 K9 hw2
          (try simp only[pq])
          refine rdq 8 (some 84) (.call { callee := .builtin .append,args := #[(.tmp 77),(.tmp 83)],argTypes := #[30,30] }) (fun K9 hK9 => ?_)
          refine zag (by rfl) _ _ rfl wo.heap.size (v12) (zao P++[kk]) rfl (o2).keys _ ky e2 rfl (by simp[zao];omega) (hu2).size ?_
          intro g3 c3 w3 o3 g3g hat hlt
          obtain ⟨v9,hv9⟩:∃ v,v=Value.slice (some ⟨g3,0,none⟩) ((zao P++[kk]).length+1) c3:=⟨_,rfl⟩
          rw[← hv9] at o3 ⊢
          obtain ⟨hu3,hb3,ho9,hu9⟩:=(o2).key hu2 hv9 o3 g3g hat
          subst hv9
          generalize (zao P++[kk]).length+1=nq at hu9 ho9 ⊢
          refine hK9.out _ _ hu3 (fun _ => ?_)
          clear hK9 K9
          refine tq 9 85 (.fieldAddr 32 (.tmp 6) 0) ((.pointer (some ⟨wo.heap.size,0,none⟩))) hu3 ?_
          (try simp only[pq])
          refine rdq 10 none (.store 30 (.tmp 85) (.tmp 84)) (fun K9 hK9 => ?_)
          have q1:=hb3.cell 0
          simp only[List.getElem?_cons_zero] at q1
          have f1:=hb3.fz 0
          go_simp
          clear q1 f1
          refine hK9.out _ _ hu9 (fun _ => ?_)
          clear hK9 K9
          (try simp only[pq])
          refine wpAnyH_done (by kernel_rfl) ?_ _
          refine NoPanic.normal ?_
          go_wp2_with fail
          go_meet
          case rel=>exact ⟨_,ho9,hu9⟩
         ·obtain ⟨w2,hw2,e2,g2⟩:=zah WD 9 [.string TY]
          have z9:=zbb TY WD
          go_simp
          clear z9
          rw[← hw2]
          have o2:=(ho).nn g2
          have hu2:=tn hu g2
          rw[show Value.string TY=stv ky by rw[uh HTY];rfl] at e2
          refine hK9.out _ _ hu2 (fun _ => ?_)
          clear hK9 K9 hw2
          (try simp only[pq])
          refine rdq 1 (some 77) (.load 30 (.tmp 76)) (fun K9 hK9 => ?_)
          have q1:=(o2).blk.cell 0
          simp only[List.getElem?_cons_zero] at q1
          go_simp
          clear q1
          refine hK9.out _ _ hu2 (fun _ => ?_)
          clear hK9 K9
          (try simp only[pq])
          refine rdq 8 (some 84) (.call { callee := .builtin .append,args := #[(.tmp 77),(.tmp 83)],argTypes := #[30,30] }) (fun K9 hK9 => ?_)
          refine zag (by rfl) _ _ rfl wo.heap.size (v12) (zao P++[kk]) rfl (o2).keys _ ky e2 rfl (by simp[zao];omega) (hu2).size ?_
          intro g3 c3 w3 o3 g3g hat hlt
          obtain ⟨v9,hv9⟩:∃ v,v=Value.slice (some ⟨g3,0,none⟩) ((zao P++[kk]).length+1) c3:=⟨_,rfl⟩
          rw[← hv9] at o3 ⊢
          obtain ⟨hu3,hb3,ho9,hu9⟩:=(o2).key hu2 hv9 o3 g3g hat
          subst hv9
          generalize (zao P++[kk]).length+1=nq at hu9 ho9 ⊢
          refine hK9.out _ _ hu3 (fun _ => ?_)
          clear hK9 K9
          refine tq 9 85 (.fieldAddr 32 (.tmp 6) 0) ((.pointer (some ⟨wo.heap.size,0,none⟩))) hu3 ?_
          (try simp only[pq])
          refine rdq 10 none (.store 30 (.tmp 85) (.tmp 84)) (fun K9 hK9 => ?_)
          have q1:=hb3.cell 0
          simp only[List.getElem?_cons_zero] at q1
          have f1:=hb3.fz 0
          go_simp
          clear q1 f1
          refine hK9.out _ _ hu9 (fun _ => ?_)
          clear hK9 K9
          (try simp only[pq])
          refine wpAnyH_done (by kernel_rfl) ?_ _
          refine NoPanic.normal ?_
          go_wp2_with fail
          go_meet
          case rel=>exact ⟨_,ho9,hu9⟩
        case rest =>
         obtain ⟨v16,ho16,hu16⟩:=hcut
         obtain ⟨W16,hW16⟩:∃ W,W=wc:=⟨_,rfl⟩
         rw[← hW16]
         rw[← hW16] at ho16 hu16
         obtain ⟨HO16,HU16⟩:=zh2 ho16 hu16
         clear ho16 hu16 hW16
         go_upto_region 17 with fail
         have ho:=(uh HO16).nn (zaa (zac W16 none))
         have hu:=zaa (uh HU16)
         refine wp_region_noPanic ?_
         refine wp_region_held_drew (S:=fun V=>wo.grownBy V none) (by kernel_rfl) hu (fun _ => ?_)
         obtain ⟨WD,hWD⟩:∃ V,V=W16.drew:=⟨_,rfl⟩
         rw[← hWD]
         rw[← hWD] at ho hu
         clear hWD
         refine tq 0 86 (.fieldAddr 32 (.tmp 6) 1) ((.pointer (some ⟨wo.heap.size,1,none⟩))) hu ?_
         refine tq 2 88 (.fieldAddr 32 (.tmp 2) 1) ((.pointer (some ⟨w.heap.size,1,none⟩))) hu ?_
         refine tq 4 90 (.move (.tmp 8)) ((.int .i64 (q:Int))) hu ?_
         refine tz 3 89 (.load 30 (.tmp 88)) ((.slice (some ⟨vb,vz,none⟩) n vc)) hu ?_ (y:=(Or.inl ⟨by rfl,fun V hV=>by (have hv1:=hV.cell (uh HC1) (by simp);go_simp)⟩))
         (try simp only[pq])
         refine tq 5 91 (.indexAddr 30 (.tmp 89) (.tmp 90)) ((.pointer (some ⟨vb,vz+q,none⟩))) hu ?_
         refine tz 6 92 (.load 9 (.tmp 91)) ((.string TV)) hu ?_ (y:=(Or.inl ⟨by rfl,fun V hV=>by (have hv1:=hV.cell (uh HYV) (by simp);go_simp)⟩))
         (try simp only[pq])
         refine wpAnyH_ready (rs:=[1,7]) (by kernel_rfl) (by simp) ?_
         refine AllReadyH.cons (o:=⟨some 87,.load 30 (.tmp 86),_,_,_,_⟩) rfl (fun K9 hK9 => ?_) (AllReadyH.cons (o:=⟨some 93,.buildSlice 30 1 #[(0,(.tmp 92))],_,_,_,_⟩) rfl (fun K9 hK9 => ?_) AllReadyH.nil)
         ·have q1:=(ho).blk.cell 1
          simp only[List.getElem?_cons_zero,List.getElem?_cons_succ] at q1
          go_simp
          clear q1
          refine hK9.out _ _ hu (fun _ => ?_)
          clear hK9 K9
          (try simp only[pq])
          refine rdq 7 (some 93) (.buildSlice 30 1 #[(0,(.tmp 92))]) (fun K9 hK9 => ?_)
          obtain ⟨w2,hw2,e2,g2⟩:=zah WD 9 [.string TV]
          have z9:=zbb TV WD
          go_simp
          clear z9
          rw[← hw2]
          have o2:=(ho).nn g2
          have hu2:=tn hu g2
          rw[show Value.string TV=stv vy by rw[uh HTV];rfl] at e2
          refine hK9.out _ _ hu2 (fun _ => ?_)
          clear hK9 K9 hw2
          (try simp only[pq])
          refine rdq 8 (some 94) (.call { callee := .builtin .append,args := #[(.tmp 87),(.tmp 93)],argTypes := #[30,30] }) (fun K9 hK9 => ?_)
          refine zag (by rfl) _ _ rfl wo.heap.size (v13) (zax P++[kx]) rfl (o2).vals _ vy e2 rfl (by simp[zax];omega) (hu2).size ?_
          intro g3 c3 w3 o3 g3g hat hlt
          obtain ⟨v9,hv9⟩:∃ v,v=Value.slice (some ⟨g3,0,none⟩) ((zax P++[kx]).length+1) c3:=⟨_,rfl⟩
          rw[← hv9] at o3 ⊢
          obtain ⟨hu3,hb3,ho9,hu9⟩:=(o2).val hu2 hv9 o3 g3g hat
          subst hv9
          generalize (zax P++[kx]).length+1=nq at hu9 ho9 ⊢
          refine hK9.out _ _ hu3 (fun _ => ?_)
          clear hK9 K9
          refine tq 9 95 (.fieldAddr 32 (.tmp 6) 1) ((.pointer (some ⟨wo.heap.size,1,none⟩))) hu3 ?_
          (try simp only[pq])
          refine rdq 10 none (.store 30 (.tmp 95) (.tmp 94)) (fun K9 hK9 => ?_)
          have q1:=hb3.cell 1
          simp only[List.getElem?_cons_zero,List.getElem?_cons_succ] at q1
          have f1:=hb3.fz 1
          go_simp
          clear q1 f1
          refine hK9.out _ _ hu9 (fun _ => ?_)
          clear hK9 K9
          (try simp only[pq])
          refine wpAnyH_done (by kernel_rfl) ?_ _
          refine NoPanic.normal ?_
          obtain ⟨HO17,HU17⟩:=zh2 ho9 hu9
          clear ho9 hu9
          have ho9:=uh HO17
          rw[← zbx _ kk kx,← zbx _ ky vy,← zby _ kk kx,← zby _ ky vy] at ho9
          have HF9:=hide (And.intro ho9 (uh HU17))
          clear ho9
          go_wp2
          go_roundw
          case rel=>exact ⟨q+1,(P++[(kk,kx)])++[(ky,vy)],true,_,_,rfl,by go_num,by omega,by (try simp only[List.length_append,List.length_cons,List.length_nil]);omega,hide ⟨uh HST,(uh HF9).1,(uh HF9).2⟩⟩
          case measure=>simp[intOf];omega
         ·obtain ⟨w2,hw2,e2,g2⟩:=zah WD 9 [.string TV]
          have z9:=zbb TV WD
          go_simp
          clear z9
          rw[← hw2]
          have o2:=(ho).nn g2
          have hu2:=tn hu g2
          rw[show Value.string TV=stv vy by rw[uh HTV];rfl] at e2
          refine hK9.out _ _ hu2 (fun _ => ?_)
          clear hK9 K9 hw2
          (try simp only[pq])
          refine rdq 1 (some 87) (.load 30 (.tmp 86)) (fun K9 hK9 => ?_)
          have q1:=(o2).blk.cell 1
          simp only[List.getElem?_cons_zero,List.getElem?_cons_succ] at q1
          go_simp
          clear q1
          refine hK9.out _ _ hu2 (fun _ => ?_)
          clear hK9 K9
          (try simp only[pq])
          refine rdq 8 (some 94) (.call { callee := .builtin .append,args := #[(.tmp 87),(.tmp 93)],argTypes := #[30,30] }) (fun K9 hK9 => ?_)
          refine zag (by rfl) _ _ rfl wo.heap.size (v13) (zax P++[kx]) rfl (o2).vals _ vy e2 rfl (by simp[zax];omega) (hu2).size ?_
          intro g3 c3 w3 o3 g3g hat hlt
          obtain ⟨v9,hv9⟩:∃ v,v=Value.slice (some ⟨g3,0,none⟩) ((zax P++[kx]).length+1) c3:=⟨_,rfl⟩
          rw[← hv9] at o3 ⊢
          obtain ⟨hu3,hb3,ho9,hu9⟩:=(o2).val hu2 hv9 o3 g3g hat
          subst hv9
          generalize (zax P++[kx]).length+1=nq at hu9 ho9 ⊢
          refine hK9.out _ _ hu3 (fun _ => ?_)
          clear hK9 K9
          refine tq 9 95 (.fieldAddr 32 (.tmp 6) 1) ((.pointer (some ⟨wo.heap.size,1,none⟩))) hu3 ?_
          (try simp only[pq])
          refine rdq 10 none (.store 30 (.tmp 95) (.tmp 94)) (fun K9 hK9 => ?_)
          have q1:=hb3.cell 1
          simp only[List.getElem?_cons_zero,List.getElem?_cons_succ] at q1
          have f1:=hb3.fz 1
          go_simp
          clear q1 f1
          refine hK9.out _ _ hu9 (fun _ => ?_)
          clear hK9 K9
          (try simp only[pq])
          refine wpAnyH_done (by kernel_rfl) ?_ _
          refine NoPanic.normal ?_
          obtain ⟨HO17,HU17⟩:=zh2 ho9 hu9
          clear ho9 hu9
          have ho9:=uh HO17
          rw[← zbx _ kk kx,← zbx _ ky vy,← zby _ kk kx,← zby _ ky vy] at ho9
          have HF9:=hide (And.intro ho9 (uh HU17))
          clear ho9
          go_wp2
          go_roundw
          case rel=>exact ⟨q+1,(P++[(kk,kx)])++[(ky,vy)],true,_,_,rfl,by go_num,by omega,by (try simp only[List.length_append,List.length_cons,List.length_nil]);omega,hide ⟨uh HST,(uh HF9).1,(uh HF9).2⟩⟩
          case measure=>simp[intOf];omega
     ·have hno:dn=true∨zbv kk ky=false:=by
       cases dn with
       | true=>exact Or.inl rfl
       | false=>exact Or.inr (by cases hx:zbv kk ky with
         | true=>exact absurd ⟨rfl,hx⟩ hle
         | false=>rfl)
      clear hle
      by_cases heq:ky=kk
      ·have HNE:=hide (show TY.toList=TK.toList by rw[e1,e2,heq])
       have HST:=hide (show (V.take (q+1)).foldl (zbd c) ([],c.gone)=(P,dn) by rw[hst,zst (by rw[← uh HKK];exact heq)])
       cases dn with
       | true =>
         clear hst e1 e2 hno heq
         go_upto_region 11 with fail
         refine wp_region_noPanic ?_
         refine wp_region_held_drew (S:=fun V=>wo.grownBy V none) (by kernel_rfl) (zaa (uh HU)) (fun _ => ?_)
         refine tq 0 30 (.move (.tmp 7)) ((.bool true)) (zaa (uh HU)) ?_
         refine tq 1 31 (.unOp .not 4 (.tmp 30)) ((.bool false)) (zaa (uh HU)) ?_
         refine tq 2 32 (.move (.tmp 31)) ((.bool false)) (zaa (uh HU)) ?_
         refine tz 3 33 (.fieldAddr 32 (.tmp 2) 0) undef (zaa (uh HU)) ?_ (y:=(Or.inr ⟨by rfl,rfl⟩))
         (try simp only[pq])
         refine tz 4 34 (.load 30 (.tmp 33)) undef (zaa (uh HU)) ?_ (y:=(Or.inr ⟨by rfl,rfl⟩))
         refine tz 5 35 (.move (.tmp 8)) undef (zaa (uh HU)) ?_ (y:=(Or.inr ⟨by rfl,rfl⟩))
         refine tz 6 36 (.indexAddr 30 (.tmp 34) (.tmp 35)) undef (zaa (uh HU)) ?_ (y:=(Or.inr ⟨by rfl,rfl⟩))
         refine tz 7 37 (.load 9 (.tmp 36)) undef (zaa (uh HU)) ?_ (y:=(Or.inr ⟨by rfl,rfl⟩))
         (try simp only[pq])
         refine tz 8 38 (.move (.tmp 1)) undef (zaa (uh HU)) ?_ (y:=(Or.inr ⟨by rfl,rfl⟩))
         refine tz 9 39 (.move (.tmp 5)) undef (zaa (uh HU)) ?_ (y:=(Or.inr ⟨by rfl,rfl⟩))
         refine tz 10 40 (.indexAddr 40 (.tmp 38) (.tmp 39)) undef (zaa (uh HU)) ?_ (y:=(Or.inr ⟨by rfl,rfl⟩))
         refine tz 11 41 (.fieldAddr 85 (.tmp 40) 0) undef (zaa (uh HU)) ?_ (y:=(Or.inr ⟨by rfl,rfl⟩))
         (try simp only[pq])
         refine tz 12 42 (.load 9 (.tmp 41)) undef (zaa (uh HU)) ?_ (y:=(Or.inr ⟨by rfl,rfl⟩))
         refine tz 13 43 (.binOp .gtr 9 (.tmp 37) (.tmp 42) 9) undef (zaa (uh HU)) ?_ (y:=(Or.inr ⟨by rfl,rfl⟩))
         refine tq 14 44 (.pick (.tmp 32) (.tmp 43) (.const (.bool false))) ((.bool false)) (zaa (uh HU)) ?_
         (try simp only[pq])
         refine wpAnyH_done (by kernel_rfl) ?_ _
         refine NoPanic.normal ?_
         have HO11:=hide ((uh HO).nn (zaa (zac wr none)))
         have HU11:=hide (zaa (uh HU))
         obtain ⟨W11,hW11⟩:∃ V,V=wr.drew:=⟨_,rfl⟩
         rw[← hW11]
         rw[← hW11] at HO11 HU11
         clear hW11
         go_upto_region 15 with fail
         refine wp_region_noPanic ?_
         refine wp_region_held_drew (S:=fun V=>wo.grownBy V none) (by kernel_rfl) (zaa (uh HU11)) (fun _ => ?_)
         refine tq 0 65 (.fieldAddr 32 (.tmp 2) 0) ((.pointer (some ⟨w.heap.size,0,none⟩))) (zaa (uh HU11)) ?_
         refine tz 1 66 (.load 30 (.tmp 65)) ((.slice (some ⟨kb,kz,none⟩) n kc)) (zaa (uh HU11)) ?_ (y:=(Or.inl ⟨by rfl,fun V hV=>by (have hv1:=hV.cell (uh HC0) (by simp);go_simp)⟩))
         refine tq 2 67 (.move (.tmp 8)) ((.int .i64 (q:Int))) (zaa (uh HU11)) ?_
         refine tq 3 68 (.indexAddr 30 (.tmp 66) (.tmp 67)) ((.pointer (some ⟨kb,kz+q,none⟩))) (zaa (uh HU11)) ?_
         (try simp only[pq])
         refine tz 4 69 (.load 9 (.tmp 68)) ((.string TY)) (zaa (uh HU11)) ?_ (y:=(Or.inl ⟨by rfl,fun V hV=>by (have hv1:=hV.cell (uh HYK) (by simp);go_simp)⟩))
         refine tq 5 70 (.move (.tmp 1)) ((.slice (some ⟨lb,lo,none⟩) nl cc)) (zaa (uh HU11)) ?_
         refine tq 6 71 (.move (.tmp 5)) ((.int .i64 (j:Int))) (zaa (uh HU11)) ?_
         refine tq 7 72 (.indexAddr 40 (.tmp 70) (.tmp 71)) ((.pointer (some ⟨lb,lo+j*3,none⟩))) (zaa (uh HU11)) ?_
         (try simp only[pq])
         refine tq 8 73 (.fieldAddr 85 (.tmp 72) 0) ((.pointer (some ⟨lb,lo+j*3,none⟩))) (zaa (uh HU11)) ?_
         refine tz 9 74 (.load 9 (.tmp 73)) ((.string TK)) (zaa (uh HU11)) ?_ (y:=(Or.inl ⟨by rfl,fun V hV=>by (have hv1:=hV.cell (uh HCK) (by simp);go_simp)⟩))
         refine tz 10 75 (.binOp .neq 9 (.tmp 69) (.tmp 74) 9) ((.bool false)) (zaa (uh HU11)) ?_ (y:=(Or.inl ⟨by rfl,fun V hV=>by (have hv1:=uh HNE;go_simp)⟩))
         (try simp only[pq])
         refine wpAnyH_done (by kernel_rfl) ?_ _
         refine NoPanic.normal ?_
         have HO15:=hide ((uh HO11).nn (zaa (zac W11 none)))
         have HU15:=hide (zaa (uh HU11))
         obtain ⟨W15,hW15⟩:∃ V,V=W11.drew:=⟨_,rfl⟩
         rw[← hW15]
         rw[← hW15] at HO15 HU15
         clear hW15
         have ho9:=uh HO15
         skip
         have HF9:=hide (And.intro ho9 (uh HU15))
         clear ho9
         go_wp2
         go_roundw
         case rel=>exact ⟨q+1,P,true,_,_,rfl,by go_num,by omega,by (try simp only[List.length_append,List.length_cons,List.length_nil]);omega,hide ⟨uh HST,(uh HF9).1,(uh HF9).2⟩⟩
         case measure=>simp[intOf];omega
       | false =>
         have HLS:=hide (show Op.bytesLess TY.toList TK.toList=false→TY.toList=TK.toList by rw[e1,e2];exact fun h9=>(zd0 _ _ (hno.resolve_left (by decide)) h9).symm)
         clear hst e1 e2 hno heq
         go_upto_region 11 with fail
         refine wp_region_noPanic ?_
         refine wp_region_held_drew (S:=fun V=>wo.grownBy V none) (by kernel_rfl) (zaa (uh HU)) (fun _ => ?_)
         refine tq 0 30 (.move (.tmp 7)) ((.bool false)) (zaa (uh HU)) ?_
         refine tq 1 31 (.unOp .not 4 (.tmp 30)) ((.bool true)) (zaa (uh HU)) ?_
         refine tq 2 32 (.move (.tmp 31)) ((.bool true)) (zaa (uh HU)) ?_
         refine tq 3 33 (.fieldAddr 32 (.tmp 2) 0) ((.pointer (some ⟨w.heap.size,0,none⟩))) (zaa (uh HU)) ?_
         (try simp only[pq])
         refine tz 4 34 (.load 30 (.tmp 33)) ((.slice (some ⟨kb,kz,none⟩) n kc)) (zaa (uh HU)) ?_ (y:=(Or.inl ⟨by rfl,fun V hV=>by (have hv1:=hV.cell (uh HC0) (by simp);go_simp)⟩))
         refine tq 5 35 (.move (.tmp 8)) ((.int .i64 (q:Int))) (zaa (uh HU)) ?_
         refine tq 6 36 (.indexAddr 30 (.tmp 34) (.tmp 35)) ((.pointer (some ⟨kb,kz+q,none⟩))) (zaa (uh HU)) ?_
         refine tz 7 37 (.load 9 (.tmp 36)) ((.string TY)) (zaa (uh HU)) ?_ (y:=(Or.inl ⟨by rfl,fun V hV=>by (have hv1:=hV.cell (uh HYK) (by simp);go_simp)⟩))
         (try simp only[pq])
         refine tq 8 38 (.move (.tmp 1)) ((.slice (some ⟨lb,lo,none⟩) nl cc)) (zaa (uh HU)) ?_
         refine tq 9 39 (.move (.tmp 5)) ((.int .i64 (j:Int))) (zaa (uh HU)) ?_
         refine tq 10 40 (.indexAddr 40 (.tmp 38) (.tmp 39)) ((.pointer (some ⟨lb,lo+j*3,none⟩))) (zaa (uh HU)) ?_
         refine tq 11 41 (.fieldAddr 85 (.tmp 40) 0) ((.pointer (some ⟨lb,lo+j*3,none⟩))) (zaa (uh HU)) ?_
         (try simp only[pq])
         refine tz 12 42 (.load 9 (.tmp 41)) ((.string TK)) (zaa (uh HU)) ?_ (y:=(Or.inl ⟨by rfl,fun V hV=>by (have hv1:=hV.cell (uh HCK) (by simp);go_simp)⟩))
         refine tz 13 43 (.binOp .gtr 9 (.tmp 37) (.tmp 42) 9) ((.bool false)) (zaa (uh HU)) ?_ (y:=(Or.inl ⟨by rfl,fun V hV=>by (have hv1:=uh HLS;go_simp;exact hv1)⟩))
         refine tq 14 44 (.pick (.tmp 32) (.tmp 43) (.const (.bool false))) ((.bool false)) (zaa (uh HU)) ?_
         (try simp only[pq])
         refine wpAnyH_done (by kernel_rfl) ?_ _
         refine NoPanic.normal ?_
         have HO11:=hide ((uh HO).nn (zaa (zac wr none)))
         have HU11:=hide (zaa (uh HU))
         obtain ⟨W11,hW11⟩:∃ V,V=wr.drew:=⟨_,rfl⟩
         rw[← hW11]
         rw[← hW11] at HO11 HU11
         clear hW11
         go_upto_region 15 with fail
         refine wp_region_noPanic ?_
         refine wp_region_held_drew (S:=fun V=>wo.grownBy V none) (by kernel_rfl) (zaa (uh HU11)) (fun _ => ?_)
         refine tq 0 65 (.fieldAddr 32 (.tmp 2) 0) ((.pointer (some ⟨w.heap.size,0,none⟩))) (zaa (uh HU11)) ?_
         refine tz 1 66 (.load 30 (.tmp 65)) ((.slice (some ⟨kb,kz,none⟩) n kc)) (zaa (uh HU11)) ?_ (y:=(Or.inl ⟨by rfl,fun V hV=>by (have hv1:=hV.cell (uh HC0) (by simp);go_simp)⟩))
         refine tq 2 67 (.move (.tmp 8)) ((.int .i64 (q:Int))) (zaa (uh HU11)) ?_
         refine tq 3 68 (.indexAddr 30 (.tmp 66) (.tmp 67)) ((.pointer (some ⟨kb,kz+q,none⟩))) (zaa (uh HU11)) ?_
         (try simp only[pq])
         refine tz 4 69 (.load 9 (.tmp 68)) ((.string TY)) (zaa (uh HU11)) ?_ (y:=(Or.inl ⟨by rfl,fun V hV=>by (have hv1:=hV.cell (uh HYK) (by simp);go_simp)⟩))
         refine tq 5 70 (.move (.tmp 1)) ((.slice (some ⟨lb,lo,none⟩) nl cc)) (zaa (uh HU11)) ?_
         refine tq 6 71 (.move (.tmp 5)) ((.int .i64 (j:Int))) (zaa (uh HU11)) ?_
         refine tq 7 72 (.indexAddr 40 (.tmp 70) (.tmp 71)) ((.pointer (some ⟨lb,lo+j*3,none⟩))) (zaa (uh HU11)) ?_
         (try simp only[pq])
         refine tq 8 73 (.fieldAddr 85 (.tmp 72) 0) ((.pointer (some ⟨lb,lo+j*3,none⟩))) (zaa (uh HU11)) ?_
         refine tz 9 74 (.load 9 (.tmp 73)) ((.string TK)) (zaa (uh HU11)) ?_ (y:=(Or.inl ⟨by rfl,fun V hV=>by (have hv1:=hV.cell (uh HCK) (by simp);go_simp)⟩))
         refine tz 10 75 (.binOp .neq 9 (.tmp 69) (.tmp 74) 9) ((.bool false)) (zaa (uh HU11)) ?_ (y:=(Or.inl ⟨by rfl,fun V hV=>by (have hv1:=uh HNE;go_simp)⟩))
         (try simp only[pq])
         refine wpAnyH_done (by kernel_rfl) ?_ _
         refine NoPanic.normal ?_
         have HO15:=hide ((uh HO11).nn (zaa (zac W11 none)))
         have HU15:=hide (zaa (uh HU11))
         obtain ⟨W15,hW15⟩:∃ V,V=W11.drew:=⟨_,rfl⟩
         rw[← hW15]
         rw[← hW15] at HO15 HU15
         clear hW15
         have ho9:=uh HO15
         skip
         have HF9:=hide (And.intro ho9 (uh HU15))
         clear ho9
         go_wp2
         go_roundw
         case rel=>exact ⟨q+1,P,false,_,_,rfl,by go_num,by omega,by (try simp only[List.length_append,List.length_cons,List.length_nil]);omega,hide ⟨uh HST,(uh HF9).1,(uh HF9).2⟩⟩
         case measure=>simp[intOf];omega
      ·have HNE:=hide (show ¬ TY.toList=TK.toList by rw[e1,e2];exact heq)
       have HST:=hide (show (V.take (q+1)).foldl (zbd c) ([],c.gone)=(P++[(ky,vy)],dn) by rw[hst,zsu (by rw[← uh HKK];exact heq) (by rw[← uh HKK];exact hno)])
       cases dn with
       | true =>
         clear hst e1 e2 hno heq
         go_upto_region 11 with fail
         refine wp_region_noPanic ?_
         refine wp_region_held_drew (S:=fun V=>wo.grownBy V none) (by kernel_rfl) (zaa (uh HU)) (fun _ => ?_)
         refine tq 0 30 (.move (.tmp 7)) ((.bool true)) (zaa (uh HU)) ?_
         refine tq 1 31 (.unOp .not 4 (.tmp 30)) ((.bool false)) (zaa (uh HU)) ?_
         refine tq 2 32 (.move (.tmp 31)) ((.bool false)) (zaa (uh HU)) ?_
         refine tz 3 33 (.fieldAddr 32 (.tmp 2) 0) undef (zaa (uh HU)) ?_ (y:=(Or.inr ⟨by rfl,rfl⟩))
         (try simp only[pq])
         refine tz 4 34 (.load 30 (.tmp 33)) undef (zaa (uh HU)) ?_ (y:=(Or.inr ⟨by rfl,rfl⟩))
         refine tz 5 35 (.move (.tmp 8)) undef (zaa (uh HU)) ?_ (y:=(Or.inr ⟨by rfl,rfl⟩))
         refine tz 6 36 (.indexAddr 30 (.tmp 34) (.tmp 35)) undef (zaa (uh HU)) ?_ (y:=(Or.inr ⟨by rfl,rfl⟩))
         refine tz 7 37 (.load 9 (.tmp 36)) undef (zaa (uh HU)) ?_ (y:=(Or.inr ⟨by rfl,rfl⟩))
         (try simp only[pq])
         refine tz 8 38 (.move (.tmp 1)) undef (zaa (uh HU)) ?_ (y:=(Or.inr ⟨by rfl,rfl⟩))
         refine tz 9 39 (.move (.tmp 5)) undef (zaa (uh HU)) ?_ (y:=(Or.inr ⟨by rfl,rfl⟩))
         refine tz 10 40 (.indexAddr 40 (.tmp 38) (.tmp 39)) undef (zaa (uh HU)) ?_ (y:=(Or.inr ⟨by rfl,rfl⟩))
         refine tz 11 41 (.fieldAddr 85 (.tmp 40) 0) undef (zaa (uh HU)) ?_ (y:=(Or.inr ⟨by rfl,rfl⟩))
         (try simp only[pq])
         refine tz 12 42 (.load 9 (.tmp 41)) undef (zaa (uh HU)) ?_ (y:=(Or.inr ⟨by rfl,rfl⟩))
         refine tz 13 43 (.binOp .gtr 9 (.tmp 37) (.tmp 42) 9) undef (zaa (uh HU)) ?_ (y:=(Or.inr ⟨by rfl,rfl⟩))
         refine tq 14 44 (.pick (.tmp 32) (.tmp 43) (.const (.bool false))) ((.bool false)) (zaa (uh HU)) ?_
         (try simp only[pq])
         refine wpAnyH_done (by kernel_rfl) ?_ _
         refine NoPanic.normal ?_
         have HO11:=hide ((uh HO).nn (zaa (zac wr none)))
         have HU11:=hide (zaa (uh HU))
         obtain ⟨W11,hW11⟩:∃ V,V=wr.drew:=⟨_,rfl⟩
         rw[← hW11]
         rw[← hW11] at HO11 HU11
         clear hW11
         go_upto_region 15 with fail
         refine wp_region_noPanic ?_
         refine wp_region_held_drew (S:=fun V=>wo.grownBy V none) (by kernel_rfl) (zaa (uh HU11)) (fun _ => ?_)
         refine tq 0 65 (.fieldAddr 32 (.tmp 2) 0) ((.pointer (some ⟨w.heap.size,0,none⟩))) (zaa (uh HU11)) ?_
         refine tz 1 66 (.load 30 (.tmp 65)) ((.slice (some ⟨kb,kz,none⟩) n kc)) (zaa (uh HU11)) ?_ (y:=(Or.inl ⟨by rfl,fun V hV=>by (have hv1:=hV.cell (uh HC0) (by simp);go_simp)⟩))
         refine tq 2 67 (.move (.tmp 8)) ((.int .i64 (q:Int))) (zaa (uh HU11)) ?_
         refine tq 3 68 (.indexAddr 30 (.tmp 66) (.tmp 67)) ((.pointer (some ⟨kb,kz+q,none⟩))) (zaa (uh HU11)) ?_
         (try simp only[pq])
         refine tz 4 69 (.load 9 (.tmp 68)) ((.string TY)) (zaa (uh HU11)) ?_ (y:=(Or.inl ⟨by rfl,fun V hV=>by (have hv1:=hV.cell (uh HYK) (by simp);go_simp)⟩))
         refine tq 5 70 (.move (.tmp 1)) ((.slice (some ⟨lb,lo,none⟩) nl cc)) (zaa (uh HU11)) ?_
         refine tq 6 71 (.move (.tmp 5)) ((.int .i64 (j:Int))) (zaa (uh HU11)) ?_
         refine tq 7 72 (.indexAddr 40 (.tmp 70) (.tmp 71)) ((.pointer (some ⟨lb,lo+j*3,none⟩))) (zaa (uh HU11)) ?_
         (try simp only[pq])
         refine tq 8 73 (.fieldAddr 85 (.tmp 72) 0) ((.pointer (some ⟨lb,lo+j*3,none⟩))) (zaa (uh HU11)) ?_
         refine tz 9 74 (.load 9 (.tmp 73)) ((.string TK)) (zaa (uh HU11)) ?_ (y:=(Or.inl ⟨by rfl,fun V hV=>by (have hv1:=hV.cell (uh HCK) (by simp);go_simp)⟩))
         refine tz 10 75 (.binOp .neq 9 (.tmp 69) (.tmp 74) 9) ((.bool true)) (zaa (uh HU11)) ?_ (y:=(Or.inl ⟨by rfl,fun V hV=>by (have hv1:=uh HNE;go_simp)⟩))
         (try simp only[pq])
         refine wpAnyH_done (by kernel_rfl) ?_ _
         refine NoPanic.normal ?_
         have HO15:=hide ((uh HO11).nn (zaa (zac W11 none)))
         have HU15:=hide (zaa (uh HU11))
         obtain ⟨W15,hW15⟩:∃ V,V=W11.drew:=⟨_,rfl⟩
         rw[← hW15]
         rw[← hW15] at HO15 HU15
         clear hW15
         go_upto_region 16 with fail
         go_cut [] (fun wx=>∃ v9:Value,OutW wx wo.heap.size wo.heap.size (zao P++[ky]) (zax P) h1 h2 h3 v9 vv∧wo.grownBy wx none)
         case first =>
          as_aux_lemma =>
          have ho:=(uh HO15).nn (zaa (zac W15 none))
          have hu:=zaa (uh HU15)
          refine wp_region_noPanic ?_
          refine wp_region_held_drew (S:=fun V=>wo.grownBy V none) (by kernel_rfl) hu (fun _ => ?_)
          obtain ⟨WD,hWD⟩:∃ V,V=W15.drew:=⟨_,rfl⟩
          rw[← hWD]
          rw[← hWD] at ho hu
          clear hWD
          refine tq 0 76 (.fieldAddr 32 (.tmp 6) 0) ((.pointer (some ⟨wo.heap.size,0,none⟩))) hu ?_
          refine tq 2 78 (.fieldAddr 32 (.tmp 2) 0) ((.pointer (some ⟨w.heap.size,0,none⟩))) hu ?_
          refine tq 4 80 (.move (.tmp 8)) ((.int .i64 (q:Int))) hu ?_
          refine tz 3 79 (.load 30 (.tmp 78)) ((.slice (some ⟨kb,kz,none⟩) n kc)) hu ?_ (y:=(Or.inl ⟨by rfl,fun V hV=>by (have hv1:=hV.cell (uh HC0) (by simp);go_simp)⟩))
          (try simp only[pq])
          refine tq 5 81 (.indexAddr 30 (.tmp 79) (.tmp 80)) ((.pointer (some ⟨kb,kz+q,none⟩))) hu ?_
          refine tz 6 82 (.load 9 (.tmp 81)) ((.string TY)) hu ?_ (y:=(Or.inl ⟨by rfl,fun V hV=>by (have hv1:=hV.cell (uh HYK) (by simp);go_simp)⟩))
          (try simp only[pq])
          refine wpAnyH_ready (rs:=[1,7]) (by kernel_rfl) (by simp) ?_
          refine AllReadyH.cons (o:=⟨some 77,.load 30 (.tmp 76),_,_,_,_⟩) rfl (fun K9 hK9 => ?_) (AllReadyH.cons (o:=⟨some 83,.buildSlice 30 1 #[(0,(.tmp 82))],_,_,_,_⟩) rfl (fun K9 hK9 => ?_) AllReadyH.nil)
          ·have q1:=(ho).blk.cell 0
           simp only[List.getElem?_cons_zero] at q1
           go_simp
           clear q1
           refine hK9.out _ _ hu (fun _ => ?_)
           clear hK9 K9
           (try simp only[pq])
           refine rdq 7 (some 83) (.buildSlice 30 1 #[(0,(.tmp 82))]) (fun K9 hK9 => ?_)
           obtain ⟨w2,hw2,e2,g2⟩:=zah WD 9 [.string TY]
           have z9:=zbb TY WD
           go_simp
           clear z9
           rw[← hw2]
           have o2:=(ho).nn g2
           have hu2:=tn hu g2
           rw[show Value.string TY=stv ky by rw[uh HTY];rfl] at e2
           refine hK9.out _ _ hu2 (fun _ => ?_)
           clear hK9 K9 hw2
           (try simp only[pq])
           refine rdq 8 (some 84) (.call { callee := .builtin .append,args := #[(.tmp 77),(.tmp 83)],argTypes := #[30,30] }) (fun K9 hK9 => ?_)
           refine zag (by rfl) _ _ rfl wo.heap.size (vk) (zao P) rfl (o2).keys _ ky e2 rfl (by simp[zao];omega) (hu2).size ?_
           intro g3 c3 w3 o3 g3g hat hlt
           obtain ⟨v9,hv9⟩:∃ v,v=Value.slice (some ⟨g3,0,none⟩) ((zao P).length+1) c3:=⟨_,rfl⟩
           rw[← hv9] at o3 ⊢
           obtain ⟨hu3,hb3,ho9,hu9⟩:=(o2).key hu2 hv9 o3 g3g hat
           subst hv9
           generalize (zao P).length+1=nq at hu9 ho9 ⊢
           refine hK9.out _ _ hu3 (fun _ => ?_)
           clear hK9 K9
           refine tq 9 85 (.fieldAddr 32 (.tmp 6) 0) ((.pointer (some ⟨wo.heap.size,0,none⟩))) hu3 ?_
           (try simp only[pq])
           refine rdq 10 none (.store 30 (.tmp 85) (.tmp 84)) (fun K9 hK9 => ?_)
           have q1:=hb3.cell 0
           simp only[List.getElem?_cons_zero] at q1
           have f1:=hb3.fz 0
           go_simp
           clear q1 f1
           refine hK9.out _ _ hu9 (fun _ => ?_)
           clear hK9 K9
           (try simp only[pq])
           refine wpAnyH_done (by kernel_rfl) ?_ _
           refine NoPanic.normal ?_
           go_wp2_with fail
           go_meet
           case rel=>exact ⟨_,ho9,hu9⟩
          ·obtain ⟨w2,hw2,e2,g2⟩:=zah WD 9 [.string TY]
           have z9:=zbb TY WD
           go_simp
           clear z9
           rw[← hw2]
           have o2:=(ho).nn g2
           have hu2:=tn hu g2
           rw[show Value.string TY=stv ky by rw[uh HTY];rfl] at e2
           refine hK9.out _ _ hu2 (fun _ => ?_)
           clear hK9 K9 hw2
           (try simp only[pq])
           refine rdq 1 (some 77) (.load 30 (.tmp 76)) (fun K9 hK9 => ?_)
           have q1:=(o2).blk.cell 0
           simp only[List.getElem?_cons_zero] at q1
           go_simp
           clear q1
           refine hK9.out _ _ hu2 (fun _ => ?_)
           clear hK9 K9
           (try simp only[pq])
           refine rdq 8 (some 84) (.call { callee := .builtin .append,args := #[(.tmp 77),(.tmp 83)],argTypes := #[30,30] }) (fun K9 hK9 => ?_)
           refine zag (by rfl) _ _ rfl wo.heap.size (vk) (zao P) rfl (o2).keys _ ky e2 rfl (by simp[zao];omega) (hu2).size ?_
           intro g3 c3 w3 o3 g3g hat hlt
           obtain ⟨v9,hv9⟩:∃ v,v=Value.slice (some ⟨g3,0,none⟩) ((zao P).length+1) c3:=⟨_,rfl⟩
           rw[← hv9] at o3 ⊢
           obtain ⟨hu3,hb3,ho9,hu9⟩:=(o2).key hu2 hv9 o3 g3g hat
           subst hv9
           generalize (zao P).length+1=nq at hu9 ho9 ⊢
           refine hK9.out _ _ hu3 (fun _ => ?_)
           clear hK9 K9
           refine tq 9 85 (.fieldAddr 32 (.tmp 6) 0) ((.pointer (some ⟨wo.heap.size,0,none⟩))) hu3 ?_
           (try simp only[pq])
           refine rdq 10 none (.store 30 (.tmp 85) (.tmp 84)) (fun K9 hK9 => ?_)
           have q1:=hb3.cell 0
           simp only[List.getElem?_cons_zero] at q1
           have f1:=hb3.fz 0
           go_simp
           clear q1 f1
           refine hK9.out _ _ hu9 (fun _ => ?_)
           clear hK9 K9
           (try simp only[pq])
           refine wpAnyH_done (by kernel_rfl) ?_ _
           refine NoPanic.normal ?_
           go_wp2_with fail
           go_meet
           case rel=>exact ⟨_,ho9,hu9⟩
         case rest =>
          obtain ⟨v16,ho16,hu16⟩:=hcut
          obtain ⟨W16,hW16⟩:∃ W,W=wc:=⟨_,rfl⟩
          rw[← hW16]
          rw[← hW16] at ho16 hu16
          obtain ⟨HO16,HU16⟩:=zh2 ho16 hu16
          clear ho16 hu16 hW16
          go_upto_region 17 with fail
          have ho:=(uh HO16).nn (zaa (zac W16 none))
          have hu:=zaa (uh HU16)
          refine wp_region_noPanic ?_
          refine wp_region_held_drew (S:=fun V=>wo.grownBy V none) (by kernel_rfl) hu (fun _ => ?_)
          obtain ⟨WD,hWD⟩:∃ V,V=W16.drew:=⟨_,rfl⟩
          rw[← hWD]
          rw[← hWD] at ho hu
          clear hWD
          refine tq 0 86 (.fieldAddr 32 (.tmp 6) 1) ((.pointer (some ⟨wo.heap.size,1,none⟩))) hu ?_
          refine tq 2 88 (.fieldAddr 32 (.tmp 2) 1) ((.pointer (some ⟨w.heap.size,1,none⟩))) hu ?_
          refine tq 4 90 (.move (.tmp 8)) ((.int .i64 (q:Int))) hu ?_
          refine tz 3 89 (.load 30 (.tmp 88)) ((.slice (some ⟨vb,vz,none⟩) n vc)) hu ?_ (y:=(Or.inl ⟨by rfl,fun V hV=>by (have hv1:=hV.cell (uh HC1) (by simp);go_simp)⟩))
          (try simp only[pq])
          refine tq 5 91 (.indexAddr 30 (.tmp 89) (.tmp 90)) ((.pointer (some ⟨vb,vz+q,none⟩))) hu ?_
          refine tz 6 92 (.load 9 (.tmp 91)) ((.string TV)) hu ?_ (y:=(Or.inl ⟨by rfl,fun V hV=>by (have hv1:=hV.cell (uh HYV) (by simp);go_simp)⟩))
          (try simp only[pq])
          refine wpAnyH_ready (rs:=[1,7]) (by kernel_rfl) (by simp) ?_
          refine AllReadyH.cons (o:=⟨some 87,.load 30 (.tmp 86),_,_,_,_⟩) rfl (fun K9 hK9 => ?_) (AllReadyH.cons (o:=⟨some 93,.buildSlice 30 1 #[(0,(.tmp 92))],_,_,_,_⟩) rfl (fun K9 hK9 => ?_) AllReadyH.nil)
          ·have q1:=(ho).blk.cell 1
           simp only[List.getElem?_cons_zero,List.getElem?_cons_succ] at q1
           go_simp
           clear q1
           refine hK9.out _ _ hu (fun _ => ?_)
           clear hK9 K9
           (try simp only[pq])
           refine rdq 7 (some 93) (.buildSlice 30 1 #[(0,(.tmp 92))]) (fun K9 hK9 => ?_)
           obtain ⟨w2,hw2,e2,g2⟩:=zah WD 9 [.string TV]
           have z9:=zbb TV WD
           go_simp
           clear z9
           rw[← hw2]
           have o2:=(ho).nn g2
           have hu2:=tn hu g2
           rw[show Value.string TV=stv vy by rw[uh HTV];rfl] at e2
           refine hK9.out _ _ hu2 (fun _ => ?_)
           clear hK9 K9 hw2
           (try simp only[pq])
           refine rdq 8 (some 94) (.call { callee := .builtin .append,args := #[(.tmp 87),(.tmp 93)],argTypes := #[30,30] }) (fun K9 hK9 => ?_)
           refine zag (by rfl) _ _ rfl wo.heap.size (vv) (zax P) rfl (o2).vals _ vy e2 rfl (by simp[zax];omega) (hu2).size ?_
           intro g3 c3 w3 o3 g3g hat hlt
           obtain ⟨v9,hv9⟩:∃ v,v=Value.slice (some ⟨g3,0,none⟩) ((zax P).length+1) c3:=⟨_,rfl⟩
           rw[← hv9] at o3 ⊢
           obtain ⟨hu3,hb3,ho9,hu9⟩:=(o2).val hu2 hv9 o3 g3g hat
           subst hv9
           generalize (zax P).length+1=nq at hu9 ho9 ⊢
           refine hK9.out _ _ hu3 (fun _ => ?_)
           clear hK9 K9
           refine tq 9 95 (.fieldAddr 32 (.tmp 6) 1) ((.pointer (some ⟨wo.heap.size,1,none⟩))) hu3 ?_
           (try simp only[pq])
           refine rdq 10 none (.store 30 (.tmp 95) (.tmp 94)) (fun K9 hK9 => ?_)
           have q1:=hb3.cell 1
           simp only[List.getElem?_cons_zero,List.getElem?_cons_succ] at q1
           have f1:=hb3.fz 1
           go_simp
           clear q1 f1
           refine hK9.out _ _ hu9 (fun _ => ?_)
           clear hK9 K9
           (try simp only[pq])
           refine wpAnyH_done (by kernel_rfl) ?_ _
           refine NoPanic.normal ?_
           obtain ⟨HO17,HU17⟩:=zh2 ho9 hu9
           clear ho9 hu9
           have ho9:=uh HO17
           rw[← zbx _ ky vy,← zby _ ky vy] at ho9
           have HF9:=hide (And.intro ho9 (uh HU17))
           clear ho9
           go_wp2
           go_roundw
           case rel=>exact ⟨q+1,P++[(ky,vy)],true,_,_,rfl,by go_num,by omega,by (try simp only[List.length_append,List.length_cons,List.length_nil]);omega,hide ⟨uh HST,(uh HF9).1,(uh HF9).2⟩⟩
           case measure=>simp[intOf];omega
          ·obtain ⟨w2,hw2,e2,g2⟩:=zah WD 9 [.string TV]
           have z9:=zbb TV WD
           go_simp
           clear z9
           rw[← hw2]
           have o2:=(ho).nn g2
           have hu2:=tn hu g2
           rw[show Value.string TV=stv vy by rw[uh HTV];rfl] at e2
           refine hK9.out _ _ hu2 (fun _ => ?_)
           clear hK9 K9 hw2
           (try simp only[pq])
           refine rdq 1 (some 87) (.load 30 (.tmp 86)) (fun K9 hK9 => ?_)
           have q1:=(o2).blk.cell 1
           simp only[List.getElem?_cons_zero,List.getElem?_cons_succ] at q1
           go_simp
           clear q1
           refine hK9.out _ _ hu2 (fun _ => ?_)
           clear hK9 K9
           (try simp only[pq])
           refine rdq 8 (some 94) (.call { callee := .builtin .append,args := #[(.tmp 87),(.tmp 93)],argTypes := #[30,30] }) (fun K9 hK9 => ?_)
           refine zag (by rfl) _ _ rfl wo.heap.size (vv) (zax P) rfl (o2).vals _ vy e2 rfl (by simp[zax];omega) (hu2).size ?_
           intro g3 c3 w3 o3 g3g hat hlt
           obtain ⟨v9,hv9⟩:∃ v,v=Value.slice (some ⟨g3,0,none⟩) ((zax P).length+1) c3:=⟨_,rfl⟩
           rw[← hv9] at o3 ⊢
           obtain ⟨hu3,hb3,ho9,hu9⟩:=(o2).val hu2 hv9 o3 g3g hat
           subst hv9
           generalize (zax P).length+1=nq at hu9 ho9 ⊢
           refine hK9.out _ _ hu3 (fun _ => ?_)
           clear hK9 K9
           refine tq 9 95 (.fieldAddr 32 (.tmp 6) 1) ((.pointer (some ⟨wo.heap.size,1,none⟩))) hu3 ?_
           (try simp only[pq])
           refine rdq 10 none (.store 30 (.tmp 95) (.tmp 94)) (fun K9 hK9 => ?_)
           have q1:=hb3.cell 1
           simp only[List.getElem?_cons_zero,List.getElem?_cons_succ] at q1
           have f1:=hb3.fz 1
           go_simp
           clear q1 f1
           refine hK9.out _ _ hu9 (fun _ => ?_)
           clear hK9 K9
           (try simp only[pq])
           refine wpAnyH_done (by kernel_rfl) ?_ _
           refine NoPanic.normal ?_
           obtain ⟨HO17,HU17⟩:=zh2 ho9 hu9
           clear ho9 hu9
           have ho9:=uh HO17
           rw[← zbx _ ky vy,← zby _ ky vy] at ho9
           have HF9:=hide (And.intro ho9 (uh HU17))
           clear ho9
           go_wp2
           go_roundw
           case rel=>exact ⟨q+1,P++[(ky,vy)],true,_,_,rfl,by go_num,by omega,by (try simp only[List.length_append,List.length_cons,List.length_nil]);omega,hide ⟨uh HST,(uh HF9).1,(uh HF9).2⟩⟩
           case measure=>simp[intOf];omega
       | false =>
         have HLS:=hide (show Op.bytesLess TY.toList TK.toList=false→TY.toList=TK.toList by rw[e1,e2];exact fun h9=>(zd0 _ _ (hno.resolve_left (by decide)) h9).symm)
         clear hst e1 e2 hno heq
         go_upto_region 11 with fail
         refine wp_region_noPanic ?_
         refine wp_region_held_drew (S:=fun V=>wo.grownBy V none) (by kernel_rfl) (zaa (uh HU)) (fun _ => ?_)
         refine tq 0 30 (.move (.tmp 7)) ((.bool false)) (zaa (uh HU)) ?_
         refine tq 1 31 (.unOp .not 4 (.tmp 30)) ((.bool true)) (zaa (uh HU)) ?_
         refine tq 2 32 (.move (.tmp 31)) ((.bool true)) (zaa (uh HU)) ?_
         refine tq 3 33 (.fieldAddr 32 (.tmp 2) 0) ((.pointer (some ⟨w.heap.size,0,none⟩))) (zaa (uh HU)) ?_
         (try simp only[pq])
         refine tz 4 34 (.load 30 (.tmp 33)) ((.slice (some ⟨kb,kz,none⟩) n kc)) (zaa (uh HU)) ?_ (y:=(Or.inl ⟨by rfl,fun V hV=>by (have hv1:=hV.cell (uh HC0) (by simp);go_simp)⟩))
         refine tq 5 35 (.move (.tmp 8)) ((.int .i64 (q:Int))) (zaa (uh HU)) ?_
         refine tq 6 36 (.indexAddr 30 (.tmp 34) (.tmp 35)) ((.pointer (some ⟨kb,kz+q,none⟩))) (zaa (uh HU)) ?_
         refine tz 7 37 (.load 9 (.tmp 36)) ((.string TY)) (zaa (uh HU)) ?_ (y:=(Or.inl ⟨by rfl,fun V hV=>by (have hv1:=hV.cell (uh HYK) (by simp);go_simp)⟩))
         (try simp only[pq])
         refine tq 8 38 (.move (.tmp 1)) ((.slice (some ⟨lb,lo,none⟩) nl cc)) (zaa (uh HU)) ?_
         refine tq 9 39 (.move (.tmp 5)) ((.int .i64 (j:Int))) (zaa (uh HU)) ?_
         refine tq 10 40 (.indexAddr 40 (.tmp 38) (.tmp 39)) ((.pointer (some ⟨lb,lo+j*3,none⟩))) (zaa (uh HU)) ?_
         refine tq 11 41 (.fieldAddr 85 (.tmp 40) 0) ((.pointer (some ⟨lb,lo+j*3,none⟩))) (zaa (uh HU)) ?_
         (try simp only[pq])
         refine tz 12 42 (.load 9 (.tmp 41)) ((.string TK)) (zaa (uh HU)) ?_ (y:=(Or.inl ⟨by rfl,fun V hV=>by (have hv1:=hV.cell (uh HCK) (by simp);go_simp)⟩))
         refine tz 13 43 (.binOp .gtr 9 (.tmp 37) (.tmp 42) 9) ((.bool false)) (zaa (uh HU)) ?_ (y:=(Or.inl ⟨by rfl,fun V hV=>by (have hv1:=uh HLS;go_simp;exact hv1)⟩))
         refine tq 14 44 (.pick (.tmp 32) (.tmp 43) (.const (.bool false))) ((.bool false)) (zaa (uh HU)) ?_
         (try simp only[pq])
         refine wpAnyH_done (by kernel_rfl) ?_ _
         refine NoPanic.normal ?_
         have HO11:=hide ((uh HO).nn (zaa (zac wr none)))
         have HU11:=hide (zaa (uh HU))
         obtain ⟨W11,hW11⟩:∃ V,V=wr.drew:=⟨_,rfl⟩
         rw[← hW11]
         rw[← hW11] at HO11 HU11
         clear hW11
         go_upto_region 15 with fail
         refine wp_region_noPanic ?_
         refine wp_region_held_drew (S:=fun V=>wo.grownBy V none) (by kernel_rfl) (zaa (uh HU11)) (fun _ => ?_)
         refine tq 0 65 (.fieldAddr 32 (.tmp 2) 0) ((.pointer (some ⟨w.heap.size,0,none⟩))) (zaa (uh HU11)) ?_
         refine tz 1 66 (.load 30 (.tmp 65)) ((.slice (some ⟨kb,kz,none⟩) n kc)) (zaa (uh HU11)) ?_ (y:=(Or.inl ⟨by rfl,fun V hV=>by (have hv1:=hV.cell (uh HC0) (by simp);go_simp)⟩))
         refine tq 2 67 (.move (.tmp 8)) ((.int .i64 (q:Int))) (zaa (uh HU11)) ?_
         refine tq 3 68 (.indexAddr 30 (.tmp 66) (.tmp 67)) ((.pointer (some ⟨kb,kz+q,none⟩))) (zaa (uh HU11)) ?_
         (try simp only[pq])
         refine tz 4 69 (.load 9 (.tmp 68)) ((.string TY)) (zaa (uh HU11)) ?_ (y:=(Or.inl ⟨by rfl,fun V hV=>by (have hv1:=hV.cell (uh HYK) (by simp);go_simp)⟩))
         refine tq 5 70 (.move (.tmp 1)) ((.slice (some ⟨lb,lo,none⟩) nl cc)) (zaa (uh HU11)) ?_
         refine tq 6 71 (.move (.tmp 5)) ((.int .i64 (j:Int))) (zaa (uh HU11)) ?_
         refine tq 7 72 (.indexAddr 40 (.tmp 70) (.tmp 71)) ((.pointer (some ⟨lb,lo+j*3,none⟩))) (zaa (uh HU11)) ?_
         (try simp only[pq])
         refine tq 8 73 (.fieldAddr 85 (.tmp 72) 0) ((.pointer (some ⟨lb,lo+j*3,none⟩))) (zaa (uh HU11)) ?_
         refine tz 9 74 (.load 9 (.tmp 73)) ((.string TK)) (zaa (uh HU11)) ?_ (y:=(Or.inl ⟨by rfl,fun V hV=>by (have hv1:=hV.cell (uh HCK) (by simp);go_simp)⟩))
         refine tz 10 75 (.binOp .neq 9 (.tmp 69) (.tmp 74) 9) ((.bool true)) (zaa (uh HU11)) ?_ (y:=(Or.inl ⟨by rfl,fun V hV=>by (have hv1:=uh HNE;go_simp)⟩))
         (try simp only[pq])
         refine wpAnyH_done (by kernel_rfl) ?_ _
         refine NoPanic.normal ?_
         have HO15:=hide ((uh HO11).nn (zaa (zac W11 none)))
         have HU15:=hide (zaa (uh HU11))
         obtain ⟨W15,hW15⟩:∃ V,V=W11.drew:=⟨_,rfl⟩
         rw[← hW15]
         rw[← hW15] at HO15 HU15
         clear hW15
         go_upto_region 16 with fail
         go_cut [] (fun wx=>∃ v9:Value,OutW wx wo.heap.size wo.heap.size (zao P++[ky]) (zax P) h1 h2 h3 v9 vv∧wo.grownBy wx none)
         case first =>
          as_aux_lemma =>
          have ho:=(uh HO15).nn (zaa (zac W15 none))
          have hu:=zaa (uh HU15)
          refine wp_region_noPanic ?_
          refine wp_region_held_drew (S:=fun V=>wo.grownBy V none) (by kernel_rfl) hu (fun _ => ?_)
          obtain ⟨WD,hWD⟩:∃ V,V=W15.drew:=⟨_,rfl⟩
          rw[← hWD]
          rw[← hWD] at ho hu
          clear hWD
          refine tq 0 76 (.fieldAddr 32 (.tmp 6) 0) ((.pointer (some ⟨wo.heap.size,0,none⟩))) hu ?_
          refine tq 2 78 (.fieldAddr 32 (.tmp 2) 0) ((.pointer (some ⟨w.heap.size,0,none⟩))) hu ?_
          refine tq 4 80 (.move (.tmp 8)) ((.int .i64 (q:Int))) hu ?_
          refine tz 3 79 (.load 30 (.tmp 78)) ((.slice (some ⟨kb,kz,none⟩) n kc)) hu ?_ (y:=(Or.inl ⟨by rfl,fun V hV=>by (have hv1:=hV.cell (uh HC0) (by simp);go_simp)⟩))
          (try simp only[pq])
          refine tq 5 81 (.indexAddr 30 (.tmp 79) (.tmp 80)) ((.pointer (some ⟨kb,kz+q,none⟩))) hu ?_
          refine tz 6 82 (.load 9 (.tmp 81)) ((.string TY)) hu ?_ (y:=(Or.inl ⟨by rfl,fun V hV=>by (have hv1:=hV.cell (uh HYK) (by simp);go_simp)⟩))
          (try simp only[pq])
          refine wpAnyH_ready (rs:=[1,7]) (by kernel_rfl) (by simp) ?_
          refine AllReadyH.cons (o:=⟨some 77,.load 30 (.tmp 76),_,_,_,_⟩) rfl (fun K9 hK9 => ?_) (AllReadyH.cons (o:=⟨some 83,.buildSlice 30 1 #[(0,(.tmp 82))],_,_,_,_⟩) rfl (fun K9 hK9 => ?_) AllReadyH.nil)
          ·have q1:=(ho).blk.cell 0
           simp only[List.getElem?_cons_zero] at q1
           go_simp
           clear q1
           refine hK9.out _ _ hu (fun _ => ?_)
           clear hK9 K9
           (try simp only[pq])
           refine rdq 7 (some 83) (.buildSlice 30 1 #[(0,(.tmp 82))]) (fun K9 hK9 => ?_)
           obtain ⟨w2,hw2,e2,g2⟩:=zah WD 9 [.string TY]
           have z9:=zbb TY WD
           go_simp
           clear z9
           rw[← hw2]
           have o2:=(ho).nn g2
           have hu2:=tn hu g2
           rw[show Value.string TY=stv ky by rw[uh HTY];rfl] at e2
           refine hK9.out _ _ hu2 (fun _ => ?_)
           clear hK9 K9 hw2
           (try simp only[pq])
           refine rdq 8 (some 84) (.call { callee := .builtin .append,args := #[(.tmp 77),(.tmp 83)],argTypes := #[30,30] }) (fun K9 hK9 => ?_)
           refine zag (by rfl) _ _ rfl wo.heap.size (vk) (zao P) rfl (o2).keys _ ky e2 rfl (by simp[zao];omega) (hu2).size ?_
           intro g3 c3 w3 o3 g3g hat hlt
           obtain ⟨v9,hv9⟩:∃ v,v=Value.slice (some ⟨g3,0,none⟩) ((zao P).length+1) c3:=⟨_,rfl⟩
           rw[← hv9] at o3 ⊢
           obtain ⟨hu3,hb3,ho9,hu9⟩:=(o2).key hu2 hv9 o3 g3g hat
           subst hv9
           generalize (zao P).length+1=nq at hu9 ho9 ⊢
           refine hK9.out _ _ hu3 (fun _ => ?_)
           clear hK9 K9
           refine tq 9 85 (.fieldAddr 32 (.tmp 6) 0) ((.pointer (some ⟨wo.heap.size,0,none⟩))) hu3 ?_
           (try simp only[pq])
           refine rdq 10 none (.store 30 (.tmp 85) (.tmp 84)) (fun K9 hK9 => ?_)
           have q1:=hb3.cell 0
           simp only[List.getElem?_cons_zero] at q1
           have f1:=hb3.fz 0
           go_simp
           clear q1 f1
           refine hK9.out _ _ hu9 (fun _ => ?_)
           clear hK9 K9
           (try simp only[pq])
           refine wpAnyH_done (by kernel_rfl) ?_ _
           refine NoPanic.normal ?_
           go_wp2_with fail
           go_meet
           case rel=>exact ⟨_,ho9,hu9⟩
          ·obtain ⟨w2,hw2,e2,g2⟩:=zah WD 9 [.string TY]
           have z9:=zbb TY WD
           go_simp
           clear z9
           rw[← hw2]
           have o2:=(ho).nn g2
           have hu2:=tn hu g2
           rw[show Value.string TY=stv ky by rw[uh HTY];rfl] at e2
           refine hK9.out _ _ hu2 (fun _ => ?_)
           clear hK9 K9 hw2
           (try simp only[pq])
           refine rdq 1 (some 77) (.load 30 (.tmp 76)) (fun K9 hK9 => ?_)
           have q1:=(o2).blk.cell 0
           simp only[List.getElem?_cons_zero] at q1
           go_simp
           clear q1
           refine hK9.out _ _ hu2 (fun _ => ?_)
           clear hK9 K9
           (try simp only[pq])
           refine rdq 8 (some 84) (.call { callee := .builtin .append,args := #[(.tmp 77),(.tmp 83)],argTypes := #[30,30] }) (fun K9 hK9 => ?_)
           refine zag (by rfl) _ _ rfl wo.heap.size (vk) (zao P) rfl (o2).keys _ ky e2 rfl (by simp[zao];omega) (hu2).size ?_
           intro g3 c3 w3 o3 g3g hat hlt
           obtain ⟨v9,hv9⟩:∃ v,v=Value.slice (some ⟨g3,0,none⟩) ((zao P).length+1) c3:=⟨_,rfl⟩
           rw[← hv9] at o3 ⊢
           obtain ⟨hu3,hb3,ho9,hu9⟩:=(o2).key hu2 hv9 o3 g3g hat
           subst hv9
           generalize (zao P).length+1=nq at hu9 ho9 ⊢
           refine hK9.out _ _ hu3 (fun _ => ?_)
           clear hK9 K9
           refine tq 9 85 (.fieldAddr 32 (.tmp 6) 0) ((.pointer (some ⟨wo.heap.size,0,none⟩))) hu3 ?_
           (try simp only[pq])
           refine rdq 10 none (.store 30 (.tmp 85) (.tmp 84)) (fun K9 hK9 => ?_)
           have q1:=hb3.cell 0
           simp only[List.getElem?_cons_zero] at q1
           have f1:=hb3.fz 0
           go_simp
           clear q1 f1
           refine hK9.out _ _ hu9 (fun _ => ?_)
           clear hK9 K9
           (try simp only[pq])
           refine wpAnyH_done (by kernel_rfl) ?_ _
           refine NoPanic.normal ?_
           go_wp2_with fail
           go_meet
           case rel=>exact ⟨_,ho9,hu9⟩
         case rest =>
          obtain ⟨v16,ho16,hu16⟩:=hcut
          obtain ⟨W16,hW16⟩:∃ W,W=wc:=⟨_,rfl⟩
          rw[← hW16]
          rw[← hW16] at ho16 hu16
          obtain ⟨HO16,HU16⟩:=zh2 ho16 hu16
          clear ho16 hu16 hW16
          go_upto_region 17 with fail
          have ho:=(uh HO16).nn (zaa (zac W16 none))
          have hu:=zaa (uh HU16)
          refine wp_region_noPanic ?_
          refine wp_region_held_drew (S:=fun V=>wo.grownBy V none) (by kernel_rfl) hu (fun _ => ?_)
          obtain ⟨WD,hWD⟩:∃ V,V=W16.drew:=⟨_,rfl⟩
          rw[← hWD]
          rw[← hWD] at ho hu
          clear hWD
          refine tq 0 86 (.fieldAddr 32 (.tmp 6) 1) ((.pointer (some ⟨wo.heap.size,1,none⟩))) hu ?_
          refine tq 2 88 (.fieldAddr 32 (.tmp 2) 1) ((.pointer (some ⟨w.heap.size,1,none⟩))) hu ?_
          refine tq 4 90 (.move (.tmp 8)) ((.int .i64 (q:Int))) hu ?_
          refine tz 3 89 (.load 30 (.tmp 88)) ((.slice (some ⟨vb,vz,none⟩) n vc)) hu ?_ (y:=(Or.inl ⟨by rfl,fun V hV=>by (have hv1:=hV.cell (uh HC1) (by simp);go_simp)⟩))
          (try simp only[pq])
          refine tq 5 91 (.indexAddr 30 (.tmp 89) (.tmp 90)) ((.pointer (some ⟨vb,vz+q,none⟩))) hu ?_
          refine tz 6 92 (.load 9 (.tmp 91)) ((.string TV)) hu ?_ (y:=(Or.inl ⟨by rfl,fun V hV=>by (have hv1:=hV.cell (uh HYV) (by simp);go_simp)⟩))
          (try simp only[pq])
          refine wpAnyH_ready (rs:=[1,7]) (by kernel_rfl) (by simp) ?_
          refine AllReadyH.cons (o:=⟨some 87,.load 30 (.tmp 86),_,_,_,_⟩) rfl (fun K9 hK9 => ?_) (AllReadyH.cons (o:=⟨some 93,.buildSlice 30 1 #[(0,(.tmp 92))],_,_,_,_⟩) rfl (fun K9 hK9 => ?_) AllReadyH.nil)
          ·have q1:=(ho).blk.cell 1
           simp only[List.getElem?_cons_zero,List.getElem?_cons_succ] at q1
           go_simp
           clear q1
           refine hK9.out _ _ hu (fun _ => ?_)
           clear hK9 K9
           (try simp only[pq])
           refine rdq 7 (some 93) (.buildSlice 30 1 #[(0,(.tmp 92))]) (fun K9 hK9 => ?_)
           obtain ⟨w2,hw2,e2,g2⟩:=zah WD 9 [.string TV]
           have z9:=zbb TV WD
           go_simp
           clear z9
           rw[← hw2]
           have o2:=(ho).nn g2
           have hu2:=tn hu g2
           rw[show Value.string TV=stv vy by rw[uh HTV];rfl] at e2
           refine hK9.out _ _ hu2 (fun _ => ?_)
           clear hK9 K9 hw2
           (try simp only[pq])
           refine rdq 8 (some 94) (.call { callee := .builtin .append,args := #[(.tmp 87),(.tmp 93)],argTypes := #[30,30] }) (fun K9 hK9 => ?_)
           refine zag (by rfl) _ _ rfl wo.heap.size (vv) (zax P) rfl (o2).vals _ vy e2 rfl (by simp[zax];omega) (hu2).size ?_
           intro g3 c3 w3 o3 g3g hat hlt
           obtain ⟨v9,hv9⟩:∃ v,v=Value.slice (some ⟨g3,0,none⟩) ((zax P).length+1) c3:=⟨_,rfl⟩
           rw[← hv9] at o3 ⊢
           obtain ⟨hu3,hb3,ho9,hu9⟩:=(o2).val hu2 hv9 o3 g3g hat
           subst hv9
           generalize (zax P).length+1=nq at hu9 ho9 ⊢
           refine hK9.out _ _ hu3 (fun _ => ?_)
           clear hK9 K9
           refine tq 9 95 (.fieldAddr 32 (.tmp 6) 1) ((.pointer (some ⟨wo.heap.size,1,none⟩))) hu3 ?_
           (try simp only[pq])
           refine rdq 10 none (.store 30 (.tmp 95) (.tmp 94)) (fun K9 hK9 => ?_)
           have q1:=hb3.cell 1
           simp only[List.getElem?_cons_zero,List.getElem?_cons_succ] at q1
           have f1:=hb3.fz 1
           go_simp
           clear q1 f1
           refine hK9.out _ _ hu9 (fun _ => ?_)
           clear hK9 K9
           (try simp only[pq])
           refine wpAnyH_done (by kernel_rfl) ?_ _
           refine NoPanic.normal ?_
           obtain ⟨HO17,HU17⟩:=zh2 ho9 hu9
           clear ho9 hu9
           have ho9:=uh HO17
           rw[← zbx _ ky vy,← zby _ ky vy] at ho9
           have HF9:=hide (And.intro ho9 (uh HU17))
           clear ho9
           go_wp2
           go_roundw
           case rel=>exact ⟨q+1,P++[(ky,vy)],false,_,_,rfl,by go_num,by omega,by (try simp only[List.length_append,List.length_cons,List.length_nil]);omega,hide ⟨uh HST,(uh HF9).1,(uh HF9).2⟩⟩
           case measure=>simp[intOf];omega
          ·obtain ⟨w2,hw2,e2,g2⟩:=zah WD 9 [.string TV]
           have z9:=zbb TV WD
           go_simp
           clear z9
           rw[← hw2]
           have o2:=(ho).nn g2
           have hu2:=tn hu g2
           rw[show Value.string TV=stv vy by rw[uh HTV];rfl] at e2
           refine hK9.out _ _ hu2 (fun _ => ?_)
           clear hK9 K9 hw2
           (try simp only[pq])
           refine rdq 1 (some 87) (.load 30 (.tmp 86)) (fun K9 hK9 => ?_)
           have q1:=(o2).blk.cell 1
           simp only[List.getElem?_cons_zero,List.getElem?_cons_succ] at q1
           go_simp
           clear q1
           refine hK9.out _ _ hu2 (fun _ => ?_)
           clear hK9 K9
           (try simp only[pq])
           refine rdq 8 (some 94) (.call { callee := .builtin .append,args := #[(.tmp 87),(.tmp 93)],argTypes := #[30,30] }) (fun K9 hK9 => ?_)
           refine zag (by rfl) _ _ rfl wo.heap.size (vv) (zax P) rfl (o2).vals _ vy e2 rfl (by simp[zax];omega) (hu2).size ?_
           intro g3 c3 w3 o3 g3g hat hlt
           obtain ⟨v9,hv9⟩:∃ v,v=Value.slice (some ⟨g3,0,none⟩) ((zax P).length+1) c3:=⟨_,rfl⟩
           rw[← hv9] at o3 ⊢
           obtain ⟨hu3,hb3,ho9,hu9⟩:=(o2).val hu2 hv9 o3 g3g hat
           subst hv9
           generalize (zax P).length+1=nq at hu9 ho9 ⊢
           refine hK9.out _ _ hu3 (fun _ => ?_)
           clear hK9 K9
           refine tq 9 95 (.fieldAddr 32 (.tmp 6) 1) ((.pointer (some ⟨wo.heap.size,1,none⟩))) hu3 ?_
           (try simp only[pq])
           refine rdq 10 none (.store 30 (.tmp 95) (.tmp 94)) (fun K9 hK9 => ?_)
           have q1:=hb3.cell 1
           simp only[List.getElem?_cons_zero,List.getElem?_cons_succ] at q1
           have f1:=hb3.fz 1
           go_simp
           clear q1 f1
           refine hK9.out _ _ hu9 (fun _ => ?_)
           clear hK9 K9
           (try simp only[pq])
           refine wpAnyH_done (by kernel_rfl) ?_ _
           refine NoPanic.normal ?_
           obtain ⟨HO17,HU17⟩:=zh2 ho9 hu9
           clear ho9 hu9
           have ho9:=uh HO17
           rw[← zbx _ ky vy,← zby _ ky vy] at ho9
           have HF9:=hide (And.intro ho9 (uh HU17))
           clear ho9
           go_wp2
           go_roundw
           case rel=>exact ⟨q+1,P++[(ky,vy)],false,_,_,rfl,by go_num,by omega,by (try simp only[List.length_append,List.length_cons,List.length_nil]);omega,hide ⟨uh HST,(uh HF9).1,(uh HF9).2⟩⟩
           case measure=>simp[intOf];omega
    ·have hqi:¬ (q:Int)<(n:Int):=by omega
     have hfd:V.foldl (zbd c) ([],c.gone)=(P,dn):=by have h9:=(uh HI).1;rw[List.take_of_length_le (by have:=uh HNN;omega)] at h9;exact h9
     have hme:=zse c (uh HRV) hfd
     cases dn with
     | true =>
       have HME:=hide (show zal s.V (l.take (j+1))=P by rw[uh HTA,← hme];rfl)
       clear hfd hme
       go_upto_region 21 with fail
       have ho9:=uh HO
       skip
       rw[(uh HH).1,(uh HH).2.1,(uh HH).2.2] at ho9
       have hBw:=(uh HB).kept (uh HU) (by simp)
       have hZw:=(uh HZ2).kept (uh HU) (by simp)
       obtain ⟨a9,b9,c9,d9,hE,hM⟩:=MdI.next (ko:=ko) (vo:=vo) (uh HG) hBw (zd5 _ _ _ _ _) hZw ho9 (uh HU)
       obtain ⟨C9,hC9⟩:∃ C,C=rsC a9 b9 c9 d9 { s with V:=P }:=⟨_,rfl⟩
       have hq9:wr.rangeAt wo.heap.size 0 C9:=by rw[hC9,← hE];exact zan ho9.blk
       rw[← hC9] at hM
       have HM:=hide hM
       have HI9:=hide (show (Tryz.prog.info? 32).map (·.size)=some C9.length by rw[hC9];exact zas)
       have HZ9:=hide (show (rsC ka kc va vc { s with V:=V }).toArray.size=C9.toArray.size by rw[hC9];rfl)
       have HE9:=hide (show C9.toArray.all (·.oneCell')=true by rw[hC9];exact zbz _ _ _ _ _)
       have HBW:=hide hBw
       clear ho9 hE hM hC9
       go_wp2_with (first
        | (refine wpList_load_mid rfl 32 _ rfl wo.heap.size 0 rfl C9 _ hq9 Tryz.underlying32 rfl (uh HI9) ?_;clear hq9)
        | (have hB8:=uh HBW;refine wpList_store_row rfl 32 _ _ rfl w.heap.size C9.toArray rfl rfl _ _ hB8 (by simpa using uh HI9) (by simpa using uh HZ9) (uh HE9) ?_;clear hB8))
       go_roundw
       case rel=>exact ⟨j+1,by go_num,by omega,hide (by rw[uh HME];exact uh HM)⟩
       case measure=>simp[intOf];omega
     | false =>
       have HME:=hide (show zal s.V (l.take (j+1))=P++[(kk,kx)] by rw[uh HTA,← hme,uh HKK,uh HKX];rfl)
       clear hfd hme
       go_upto_region 19 with fail
       go_cut [] (fun wx=>∃ v9:Value,OutW wx wo.heap.size wo.heap.size (zao P++[kk]) (zax P) h1 h2 h3 v9 vv∧wo.grownBy wx none)
       case first =>
        as_aux_lemma =>
        have ho:=(uh HO).nn (zaa (zac wr none))
        have hu:=zaa (uh HU)
        refine wp_region_noPanic ?_
        refine wp_region_held_drew (S:=fun V=>wo.grownBy V none) (by kernel_rfl) hu (fun _ => ?_)
        obtain ⟨WD,hWD⟩:∃ V,V=wr.drew:=⟨_,rfl⟩
        rw[← hWD]
        rw[← hWD] at ho hu
        clear hWD
        refine tq 0 98 (.fieldAddr 32 (.tmp 6) 0) ((.pointer (some ⟨wo.heap.size,0,none⟩))) hu ?_
        refine tq 2 100 (.move (.tmp 1)) ((.slice (some ⟨lb,lo,none⟩) nl cc)) hu ?_
        refine tq 3 101 (.move (.tmp 5)) ((.int .i64 (j:Int))) hu ?_
        refine tq 4 102 (.indexAddr 40 (.tmp 100) (.tmp 101)) ((.pointer (some ⟨lb,lo+j*3,none⟩))) hu ?_
        (try simp only[pq])
        refine tq 5 103 (.fieldAddr 85 (.tmp 102) 0) ((.pointer (some ⟨lb,lo+j*3,none⟩))) hu ?_
        refine tz 6 104 (.load 9 (.tmp 103)) ((.string TK)) hu ?_ (y:=(Or.inl ⟨by rfl,fun V hV=>by (have hv1:=hV.cell (uh HCK) (by simp);go_simp)⟩))
        (try simp only[pq])
        refine wpAnyH_ready (rs:=[1,7]) (by kernel_rfl) (by simp) ?_
        refine AllReadyH.cons (o:=⟨some 99,.load 30 (.tmp 98),_,_,_,_⟩) rfl (fun K9 hK9 => ?_) (AllReadyH.cons (o:=⟨some 105,.buildSlice 30 1 #[(0,(.tmp 104))],_,_,_,_⟩) rfl (fun K9 hK9 => ?_) AllReadyH.nil)
        ·have q1:=(ho).blk.cell 0
         simp only[List.getElem?_cons_zero] at q1
         go_simp
         clear q1
         refine hK9.out _ _ hu (fun _ => ?_)
         clear hK9 K9
         (try simp only[pq])
         refine rdq 7 (some 105) (.buildSlice 30 1 #[(0,(.tmp 104))]) (fun K9 hK9 => ?_)
         obtain ⟨w2,hw2,e2,g2⟩:=zah WD 9 [.string TK]
         have z9:=zbb TK WD
         go_simp
         clear z9
         rw[← hw2]
         have o2:=(ho).nn g2
         have hu2:=tn hu g2
         rw[show Value.string TK=stv kk by rw[uh HTK];rfl] at e2
         refine hK9.out _ _ hu2 (fun _ => ?_)
         clear hK9 K9 hw2
         (try simp only[pq])
         refine rdq 8 (some 106) (.call { callee := .builtin .append,args := #[(.tmp 99),(.tmp 105)],argTypes := #[30,30] }) (fun K9 hK9 => ?_)
         refine zag (by rfl) _ _ rfl wo.heap.size (vk) (zao P) rfl (o2).keys _ kk e2 rfl (by simp[zao];omega) (hu2).size ?_
         intro g3 c3 w3 o3 g3g hat hlt
         obtain ⟨v9,hv9⟩:∃ v,v=Value.slice (some ⟨g3,0,none⟩) ((zao P).length+1) c3:=⟨_,rfl⟩
         rw[← hv9] at o3 ⊢
         obtain ⟨hu3,hb3,ho9,hu9⟩:=(o2).key hu2 hv9 o3 g3g hat
         subst hv9
         generalize (zao P).length+1=nq at hu9 ho9 ⊢
         refine hK9.out _ _ hu3 (fun _ => ?_)
         clear hK9 K9
         refine tq 9 107 (.fieldAddr 32 (.tmp 6) 0) ((.pointer (some ⟨wo.heap.size,0,none⟩))) hu3 ?_
         (try simp only[pq])
         refine rdq 10 none (.store 30 (.tmp 107) (.tmp 106)) (fun K9 hK9 => ?_)
         have q1:=hb3.cell 0
         simp only[List.getElem?_cons_zero] at q1
         have f1:=hb3.fz 0
         go_simp
         clear q1 f1
         refine hK9.out _ _ hu9 (fun _ => ?_)
         clear hK9 K9
         (try simp only[pq])
         refine wpAnyH_done (by kernel_rfl) ?_ _
         refine NoPanic.normal ?_
         go_wp2_with fail
         go_meet
         case rel=>exact ⟨_,ho9,hu9⟩
        ·obtain ⟨w2,hw2,e2,g2⟩:=zah WD 9 [.string TK]
         have z9:=zbb TK WD
         go_simp
         clear z9
         rw[← hw2]
         have o2:=(ho).nn g2
         have hu2:=tn hu g2
         rw[show Value.string TK=stv kk by rw[uh HTK];rfl] at e2
         refine hK9.out _ _ hu2 (fun _ => ?_)
         clear hK9 K9 hw2
         (try simp only[pq])
         refine rdq 1 (some 99) (.load 30 (.tmp 98)) (fun K9 hK9 => ?_)
         have q1:=(o2).blk.cell 0
         simp only[List.getElem?_cons_zero] at q1
         go_simp
         clear q1
         refine hK9.out _ _ hu2 (fun _ => ?_)
         clear hK9 K9
         (try simp only[pq])
         refine rdq 8 (some 106) (.call { callee := .builtin .append,args := #[(.tmp 99),(.tmp 105)],argTypes := #[30,30] }) (fun K9 hK9 => ?_)
         refine zag (by rfl) _ _ rfl wo.heap.size (vk) (zao P) rfl (o2).keys _ kk e2 rfl (by simp[zao];omega) (hu2).size ?_
         intro g3 c3 w3 o3 g3g hat hlt
         obtain ⟨v9,hv9⟩:∃ v,v=Value.slice (some ⟨g3,0,none⟩) ((zao P).length+1) c3:=⟨_,rfl⟩
         rw[← hv9] at o3 ⊢
         obtain ⟨hu3,hb3,ho9,hu9⟩:=(o2).key hu2 hv9 o3 g3g hat
         subst hv9
         generalize (zao P).length+1=nq at hu9 ho9 ⊢
         refine hK9.out _ _ hu3 (fun _ => ?_)
         clear hK9 K9
         refine tq 9 107 (.fieldAddr 32 (.tmp 6) 0) ((.pointer (some ⟨wo.heap.size,0,none⟩))) hu3 ?_
         (try simp only[pq])
         refine rdq 10 none (.store 30 (.tmp 107) (.tmp 106)) (fun K9 hK9 => ?_)
         have q1:=hb3.cell 0
         simp only[List.getElem?_cons_zero] at q1
         have f1:=hb3.fz 0
         go_simp
         clear q1 f1
         refine hK9.out _ _ hu9 (fun _ => ?_)
         clear hK9 K9
         (try simp only[pq])
         refine wpAnyH_done (by kernel_rfl) ?_ _
         refine NoPanic.normal ?_
         go_wp2_with fail
         go_meet
         case rel=>exact ⟨_,ho9,hu9⟩
       case rest =>
        obtain ⟨v19,ho19,hu19⟩:=hcut
        obtain ⟨W19,hW19⟩:∃ W,W=wc:=⟨_,rfl⟩
        rw[← hW19]
        rw[← hW19] at ho19 hu19
        obtain ⟨HO19,HU19⟩:=zh2 ho19 hu19
        clear ho19 hu19 hW19
        go_upto_region 20 with fail
        go_cut [] (fun wx=>∃ v9:Value,OutW wx wo.heap.size wo.heap.size (zao P++[kk]) (zax P++[kx]) h1 h2 h3 v19 v9∧wo.grownBy wx none)
        case first =>
         as_aux_lemma =>
         have ho:=(uh HO19).nn (zaa (zac W19 none))
         have hu:=zaa (uh HU19)
         refine wp_region_noPanic ?_
         refine wp_region_held_drew (S:=fun V=>wo.grownBy V none) (by kernel_rfl) hu (fun _ => ?_)
         obtain ⟨WD,hWD⟩:∃ V,V=W19.drew:=⟨_,rfl⟩
         rw[← hWD]
         rw[← hWD] at ho hu
         clear hWD
         refine tq 0 108 (.fieldAddr 32 (.tmp 6) 1) ((.pointer (some ⟨wo.heap.size,1,none⟩))) hu ?_
         refine tq 2 110 (.move (.tmp 1)) ((.slice (some ⟨lb,lo,none⟩) nl cc)) hu ?_
         refine tq 3 111 (.move (.tmp 5)) ((.int .i64 (j:Int))) hu ?_
         refine tq 4 112 (.indexAddr 40 (.tmp 110) (.tmp 111)) ((.pointer (some ⟨lb,lo+j*3,none⟩))) hu ?_
         (try simp only[pq])
         refine tq 5 113 (.fieldAddr 85 (.tmp 112) 1) ((.pointer (some ⟨lb,lo+j*3+1,none⟩))) hu ?_
         refine tz 6 114 (.load 9 (.tmp 113)) ((.string TX)) hu ?_ (y:=(Or.inl ⟨by rfl,fun V hV=>by (have hv1:=hV.cell (uh HCX) (by simp);go_simp)⟩))
         (try simp only[pq])
         refine wpAnyH_ready (rs:=[1,7]) (by kernel_rfl) (by simp) ?_
         refine AllReadyH.cons (o:=⟨some 109,.load 30 (.tmp 108),_,_,_,_⟩) rfl (fun K9 hK9 => ?_) (AllReadyH.cons (o:=⟨some 115,.buildSlice 30 1 #[(0,(.tmp 114))],_,_,_,_⟩) rfl (fun K9 hK9 => ?_) AllReadyH.nil)
         ·have q1:=(ho).blk.cell 1
          simp only[List.getElem?_cons_zero,List.getElem?_cons_succ] at q1
          go_simp
          clear q1
          refine hK9.out _ _ hu (fun _ => ?_)
          clear hK9 K9
          (try simp only[pq])
          refine rdq 7 (some 115) (.buildSlice 30 1 #[(0,(.tmp 114))]) (fun K9 hK9 => ?_)
          obtain ⟨w2,hw2,e2,g2⟩:=zah WD 9 [.string TX]
          have z9:=zbb TX WD
          go_simp
          clear z9
          rw[← hw2]
          have o2:=(ho).nn g2
          have hu2:=tn hu g2
          rw[show Value.string TX=stv kx by rw[uh HTX];rfl] at e2
          refine hK9.out _ _ hu2 (fun _ => ?_)
          clear hK9 K9 hw2
          (try simp only[pq])
          refine rdq 8 (some 116) (.call { callee := .builtin .append,args := #[(.tmp 109),(.tmp 115)],argTypes := #[30,30] }) (fun K9 hK9 => ?_)
          refine zag (by rfl) _ _ rfl wo.heap.size (vv) (zax P) rfl (o2).vals _ kx e2 rfl (by simp[zax];omega) (hu2).size ?_
          intro g3 c3 w3 o3 g3g hat hlt
          obtain ⟨v9,hv9⟩:∃ v,v=Value.slice (some ⟨g3,0,none⟩) ((zax P).length+1) c3:=⟨_,rfl⟩
          rw[← hv9] at o3 ⊢
          obtain ⟨hu3,hb3,ho9,hu9⟩:=(o2).val hu2 hv9 o3 g3g hat
          subst hv9
          generalize (zax P).length+1=nq at hu9 ho9 ⊢
          refine hK9.out _ _ hu3 (fun _ => ?_)
          clear hK9 K9
          refine tq 9 117 (.fieldAddr 32 (.tmp 6) 1) ((.pointer (some ⟨wo.heap.size,1,none⟩))) hu3 ?_
          (try simp only[pq])
          refine rdq 10 none (.store 30 (.tmp 117) (.tmp 116)) (fun K9 hK9 => ?_)
          have q1:=hb3.cell 1
          simp only[List.getElem?_cons_zero,List.getElem?_cons_succ] at q1
          have f1:=hb3.fz 1
          go_simp
          clear q1 f1
          refine hK9.out _ _ hu9 (fun _ => ?_)
          clear hK9 K9
          (try simp only[pq])
          refine wpAnyH_done (by kernel_rfl) ?_ _
          refine NoPanic.normal ?_
          go_wp2_with fail
          go_meet
          case rel=>exact ⟨_,ho9,hu9⟩
         ·obtain ⟨w2,hw2,e2,g2⟩:=zah WD 9 [.string TX]
          have z9:=zbb TX WD
          go_simp
          clear z9
          rw[← hw2]
          have o2:=(ho).nn g2
          have hu2:=tn hu g2
          rw[show Value.string TX=stv kx by rw[uh HTX];rfl] at e2
          refine hK9.out _ _ hu2 (fun _ => ?_)
          clear hK9 K9 hw2
          (try simp only[pq])
          refine rdq 1 (some 109) (.load 30 (.tmp 108)) (fun K9 hK9 => ?_)
          have q1:=(o2).blk.cell 1
          simp only[List.getElem?_cons_zero,List.getElem?_cons_succ] at q1
          go_simp
          clear q1
          refine hK9.out _ _ hu2 (fun _ => ?_)
          clear hK9 K9
          (try simp only[pq])
          refine rdq 8 (some 116) (.call { callee := .builtin .append,args := #[(.tmp 109),(.tmp 115)],argTypes := #[30,30] }) (fun K9 hK9 => ?_)
          refine zag (by rfl) _ _ rfl wo.heap.size (vv) (zax P) rfl (o2).vals _ kx e2 rfl (by simp[zax];omega) (hu2).size ?_
          intro g3 c3 w3 o3 g3g hat hlt
          obtain ⟨v9,hv9⟩:∃ v,v=Value.slice (some ⟨g3,0,none⟩) ((zax P).length+1) c3:=⟨_,rfl⟩
          rw[← hv9] at o3 ⊢
          obtain ⟨hu3,hb3,ho9,hu9⟩:=(o2).val hu2 hv9 o3 g3g hat
          subst hv9
          generalize (zax P).length+1=nq at hu9 ho9 ⊢
          refine hK9.out _ _ hu3 (fun _ => ?_)
          clear hK9 K9
          refine tq 9 117 (.fieldAddr 32 (.tmp 6) 1) ((.pointer (some ⟨wo.heap.size,1,none⟩))) hu3 ?_
          (try simp only[pq])
          refine rdq 10 none (.store 30 (.tmp 117) (.tmp 116)) (fun K9 hK9 => ?_)
          have q1:=hb3.cell 1
          simp only[List.getElem?_cons_zero,List.getElem?_cons_succ] at q1
          have f1:=hb3.fz 1
          go_simp
          clear q1 f1
          refine hK9.out _ _ hu9 (fun _ => ?_)
          clear hK9 K9
          (try simp only[pq])
          refine wpAnyH_done (by kernel_rfl) ?_ _
          refine NoPanic.normal ?_
          go_wp2_with fail
          go_meet
          case rel=>exact ⟨_,ho9,hu9⟩
        case rest =>
         obtain ⟨v20,ho20,hu20⟩:=hcut
         obtain ⟨W20,hW20⟩:∃ W,W=wc:=⟨_,rfl⟩
         rw[← hW20]
         rw[← hW20] at ho20 hu20
         obtain ⟨HO20,HU20⟩:=zh2 ho20 hu20
         clear ho20 hu20 hW20
         have ho9:=uh HO20
         rw[← zbx _ kk kx,← zby _ kk kx] at ho9
         rw[(uh HH).1,(uh HH).2.1,(uh HH).2.2] at ho9
         have hBw:=(uh HB).kept (uh HU20) (by simp)
         have hZw:=(uh HZ2).kept (uh HU20) (by simp)
         obtain ⟨a9,b9,c9,d9,hE,hM⟩:=MdI.next (ko:=ko) (vo:=vo) (uh HG) hBw (zd5 _ _ _ _ _) hZw ho9 (uh HU20)
         obtain ⟨C9,hC9⟩:∃ C,C=rsC a9 b9 c9 d9 { s with V:=P++[(kk,kx)] }:=⟨_,rfl⟩
         have hq9:W20.rangeAt wo.heap.size 0 C9:=by rw[hC9,← hE];exact zan ho9.blk
         rw[← hC9] at hM
         have HM:=hide hM
         have HI9:=hide (show (Tryz.prog.info? 32).map (·.size)=some C9.length by rw[hC9];exact zas)
         have HZ9:=hide (show (rsC ka kc va vc { s with V:=V }).toArray.size=C9.toArray.size by rw[hC9];rfl)
         have HE9:=hide (show C9.toArray.all (·.oneCell')=true by rw[hC9];exact zbz _ _ _ _ _)
         have HBW:=hide hBw
         clear ho9 hE hM hC9
         go_wp2_with (first
          | (refine wpList_load_mid rfl 32 _ rfl wo.heap.size 0 rfl C9 _ hq9 Tryz.underlying32 rfl (uh HI9) ?_;clear hq9)
          | (have hB8:=uh HBW;refine wpList_store_row rfl 32 _ _ rfl w.heap.size C9.toArray rfl rfl _ _ hB8 (by simpa using uh HI9) (by simpa using uh HZ9) (uh HE9) ?_;clear hB8))
         go_roundw
         case rel=>exact ⟨j+1,by go_num,by omega,hide (by rw[uh HME];exact uh HM)⟩
         case measure=>simp[intOf];omega
  ·have hji:¬ (j:Int)<(nl:Int):=by omega
   have hVl:V=zal s.V l:=by rw[hV,List.take_of_length_le (by have:=uh HNL;omega)]
   have hr1:wo.rangeAt w.heap.size 0 CS:=by rw[hCS];exact zan hB
   have gs:wo.grownBy (wo.setRow (w.heap.size+1) CS.toArray) (some (w.heap.size+1)):=zaj (zac _ _) _ (Or.inr rfl)
   have hk:=hR.keys
   have hv:=hR.vals
   rw[zcg] at hk
   rw[zcv] at hv
   have hk9:=hk.off hZ2 (uh HZS) gs
   have hv9:=hv.off hZ2 (uh HZS) gs
   have HF:=hide (show MdP w (wo.setRow (w.heap.size+1) CS.toArray) (.returned (.agg CS.toArray)) ko vo s l from ⟨ka,kc,va,vc,by rw[hCS,hVl],⟨by rw[zcg,← hVl];exact hk9,by rw[zcv,← hVl];exact hv9⟩,hf1.grow gs.size,hf2.grow gs.size,zaj hg _ (Or.inl (by omega))⟩)
   have HZE:=hide (show Z.toList.toArray.size=CS.toArray.size by rw[hCS,Array.toArray_toList,uh HZ];rfl)
   have HEO:=hide (show CS.toArray.all (·.oneCell')=true by rw[hCS];exact zbz _ _ _ _ _)
   have HIE2:=hide (show (Tryz.prog.info? 32).map (·.size)=some CS.toArray.size by rw[hCS];exact zas)
   have HZ2:=hide hZ2
   clear hVl gs hk hv hk9 hv9 hZ2 hB hR hf1 hf2 hg hCS hnn hris hV HJ
   go_wp2_with (first
    | (refine wpList_load_mid rfl 32 _ rfl w.heap.size 0 rfl CS _ hr1 Tryz.underlying32 rfl (uh HIE) ?_;clear hr1)
    | (have hB9:=uh HZ2;refine wpList_store_row rfl 32 _ _ rfl (w.heap.size+1) CS.toArray rfl rfl _ _ hB9 (by simpa using uh HIE) (uh HZE) (uh HEO) ?_;clear hB9))
   refine bodyPost_ret (results_cell_row rfl _ _ _ _ _ _ _ rfl ((uh HZ2).row CS) Tryz.underlying32 rfl (uh HIE2)) rfl ?_
   exact uh HF
end Go.Proofs.YtoilcpdhhlcidaaGreatDoor
