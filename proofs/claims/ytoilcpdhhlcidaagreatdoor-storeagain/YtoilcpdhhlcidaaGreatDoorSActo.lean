/- Lemmas. -/
import Derived.Test.YtoilcpdhhlcidaaGreatDoorSpWt
namespace Go.Proofs.YtoilcpdhhlcidaaGreatDoor
open Go.RowKit
set_option maxRecDepth 100000
def stC (d f e p g r m:Nat) (st:Bool):List Value:=[.pointer (some ⟨d,0,none⟩)]++(hfC f e p g r m++[.bool st])
def swD (D:Dsk) (p g r:Nat) (l:List Chg):Dsk × Int:=zel D p (za2 (zbh shaL g r (recB l))) ((List.range (secN (recB l).length)).map (secB (recB l)))
set_option maxHeartbeats 4000000 in
theorem zep {u w:World} {F:List Nat} {d:Nat} {D:Dsk} (h:Dw u w F d D) (hU:D.U.length≤1000) (hT:Tabs w) (s f e p g r m:Nat) (st:Bool) (hb:Blk w s 71 (stC d f e p g r m st)) (hs:s∉F) (hus:u.heap.size≤s)
  (f2 e2 p2 g2 r2 m2:Nat) (V2:List (List UInt8 × List UInt8)) (hv:VmW w m2 (s::F) V2) (hm2:m2∉F) (hum:u.heap.size≤m2) (ao:Option Addr) (ac:Nat) (L:List ChI) (hc:CsG w ao ac L (m2::s::F)) (hm:MayC (L.map ChI.chg)) (hp:p2+za9 (L.map ChI.chg)≤D.safe.length) (hr:r2+1<18446744073709551616) :
  Calls Tryz.prog 31 #[.pointer (some ⟨s,0,none⟩),.agg (hfC f2 e2 p2 g2 r2 m2).toArray,.slice ao L.length ac] w fun x w'=>x = .returned (.int .i64 (swD D p2 g2 r2 (L.map ChI.chg)).2)∧∃ F',Dw u w' F' d (swD D p2 g2 r2 (L.map ChI.chg)).1∧(∀ y∈F',y∈F∨w.heap.size≤y)∧Fr w w' (m2::s::F) ∧
   ((swD D p2 g2 r2 (L.map ChI.chg)).2=0→Blk w' s 71 (stC d f2 e2 (p2+za9 (L.map ChI.chg)) g2 (r2+1) m2 st)∧VmW w' m2 (s::F') (zaj V2 (L.map ChI.chg))):=by
 obtain ⟨H0,hH0⟩:∃ H,H=hfC f2 e2 p2 g2 r2 m2:=⟨_,rfl⟩
 rw[← hH0]
 obtain ⟨W1,hW1,hB1,g1⟩:=zal w 69 H0
 have hmost:=h.at_.ok.most
 obtain ⟨T,hT2⟩:∃ T,T=recB (L.map ChI.chg):=⟨_,rfl⟩
 obtain ⟨nt,hnt⟩:∃ n,n=T.length:=⟨_,rfl⟩
 have hnt2:2≤nt∧nt≤522240:=by
  have h1:1+secN nt≤2048:=by rw[hnt,hT2];exact Nat.le_trans (by show za9 (L.map ChI.chg)≤_;omega) hmost
  have h2:2≤T.length:=by rw[hT2];unfold recB;rw[List.length_append,zaw];omega
  unfold secN at h1
  omega
 have hTN:T≠[]:=fun e=>by rw[e] at hnt;simp at hnt;omega
 obtain ⟨Zr,hZr⟩:∃ Z:List Value,Z=rcC 0 0 0 (List.replicate 32 0) (.slice none 0 0):=⟨_,rfl⟩
 have hzr:=ze9
 rw[← hZr] at hzr
 have HZL:=hide (show Zr.length=36 by rw[hZr];exact zbe (by simp))
 obtain ⟨nL,hnL⟩:∃ n,n=L.length:=⟨_,rfl⟩
 have hld:∀ V,W1.grownBy V none→Calls Tryz.prog 58 #[.slice ao nL ac] V fun e w'=>∃ bo bc,e = .returned (.slice bo nt bc)∧Bts w' bo bc T∧(∀ ad,bo=some ad→V.heap.size≤ad.block)∧V.grownBy w' none:=fun V gV=>by
  have:=zkd V ao ac L (hc.is.kept (tn g1 gV)) hm
  rw[← hT2,← hnt,← hnL] at this
  exact this
 have hnr:∀ V bo bc,W1.grownBy V none→Bts V bo bc T→Calls Tryz.prog 57 #[.int .u64 (g2:Int),.int .u64 (r2:Int),.slice bo nt bc] V fun e w'=>e = .returned (.agg (rcC g2 r2 nt (shaL T) (.slice bo nt bc)).toArray)∧V.grownBy w' none:=fun V bo bc gV hb=>by
  have:=zgn V g2 r2 bo bc T hb (hT.kept0 (tn g1 gV)) (by omega)
  rw[← hnt] at this
  exact this
 rw[← hnL]
 have hc3:W1.cell? ⟨w.heap.size,3,none⟩=some (.int .u64 (g2:Int)):=by rw[hB1.cell 3,hH0];rfl
 have hc4:W1.cell? ⟨w.heap.size,4,none⟩=some (.int .u64 (r2:Int)):=by rw[hB1.cell 4,hH0];rfl
 obtain ⟨HLD,HNR,HC3,HC4,HTN,HW1⟩:=zh6 hld hnr hc3 hc4 hTN hW1
 have HD:=hide (h.nn g1)
 obtain ⟨HUU,HB1,HH0⟩:=zh3 hU hB1 hH0
 have HBS:=hide (hb.kept g1 (by simp))
 have HSF:=hide hs
 have HVM:=hide (hv.nn g1)
 obtain ⟨HVW,HCW⟩:=zh2 hv hc
 have HML:=hide (show u.heap.size≤m2∧m2<w.heap.size from ⟨hum,hv.lt⟩)
 have HSL:=hide (show s<w.heap.size from hb.lt)
 have HUS:=hide hus
 have HUW:=hide h.gb.size
 have HMF:=hide hm2
 have HCG:=hide (hc.nn g1)
 obtain ⟨HMC,HPP,HRR,HNT,HNT2,HT2⟩:=zh6 hm hp hr hnt hnt2 hT2
 obtain ⟨HMOST,HG1,HNL⟩:=zh3 hmost g1 hnL
 have HFW:=hide (h.lo)
 clear hld hnr hc3 hc4 hTN hW1 h hU hT hB1 hH0 hb hs hus hv hm2 hum hc hm hp hr hnt hnt2 hT2 hmost g1 hZr hnL
 go_enter Tryz.func31,Tryz.ntmps31
 go_upto_region 1 with (rw[← uh HW1])
 go_cut [7] (fun x9 wx=>∃ (q:Nat) (bo:Option Addr) (bc:Nat),x9 = .pointer (some ⟨q,0,none⟩)∧W1.heap.size≤q∧Blk wx q 106 (rcC g2 r2 nt (shaL T) (.slice bo nt bc))∧Bts wx bo bc T∧(∀ ad,bo=some ad→W1.heap.size≤ad.block)∧W1.grownBy wx none)
 case first =>
  have h0:W1.grownBy W1.drew none:=zab (zaa W1 none)
  refine wp_region_noPanic ?_
  refine wp_region_held_drew (S:=fun V=>W1.grownBy V none) (by kernel_rfl) h0 (fun _ => ?_)
  refine tq 0 9 (.fieldAddr 69 (.tmp 4) 3) ((.pointer (some ⟨w.heap.size,3,none⟩))) h0 ?_
  refine tz 1 10 (.load 45 (.tmp 9)) ((.int .u64 (g2:Int))) h0 ?_ (y:=(Or.inl ⟨by rfl,fun V hV=>by (have hv1:=hV.cell (uh HC3) (by simp);go_simp)⟩))
  refine tq 2 11 (.fieldAddr 69 (.tmp 4) 4) ((.pointer (some ⟨w.heap.size,4,none⟩))) h0 ?_
  refine tz 3 12 (.load 45 (.tmp 11)) ((.int .u64 (r2:Int))) h0 ?_ (y:=(Or.inl ⟨by rfl,fun V hV=>by (have hv1:=hV.cell (uh HC4) (by simp);go_simp)⟩))
  (try simp only[pq])
  refine tq 4 13 (.move (.tmp 2)) ((.slice ao nL ac)) h0 ?_
  (try simp only[pq])
  refine wpAnyH_ready (rs:=[5,7]) (by kernel_rfl) (by simp) ?_
  refine AllReadyH.cons (o:=⟨some 14,.call { callee := .value (.func 58),args := #[(.tmp 13)],argTypes := #[34] },_,_,_,_⟩) rfl (fun K9 hK9 => ?_) (AllReadyH.cons (o:=⟨some 7,.alloc 106,_,_,_,_⟩) rfl (fun K9 hK9 => ?_) AllReadyH.nil)
  ·go_simp
   go_at_call 58
   refine (uh HLD _ h0).mono ?_
   rintro e wl ⟨bo,bc,rfl,hbl,hfl,gl⟩
   have HGL:=hide (tn h0 gl)
   have HBT:=hide hbl
   have HFL:=hide (show ∀ ad,bo=some ad→W1.heap.size≤ad.block from fun ad e=>Nat.le_trans h0.size (hfl ad e))
   clear hbl hfl gl
   go_wp2_with fail
   refine hK9.out _ _ (uh HGL) (fun _ => ?_)
   clear hK9 K9
   (try simp only[pq])
   refine wpAnyH_ready (rs:=[6,7]) (by kernel_rfl) (by simp) ?_
   refine AllReadyH.cons (o:=⟨some 15,.call { callee := .value (.func 57),args := #[(.tmp 10),(.tmp 12),(.tmp 14)],argTypes := #[45,45,53] },_,_,_,_⟩) rfl (fun K9 hK9 => ?_) (AllReadyH.cons (o:=⟨some 7,.alloc 106,_,_,_,_⟩) rfl (fun K9 hK9 => ?_) AllReadyH.nil)
   ·go_simp
    go_at_call 57
    refine (uh HNR _ bo bc (uh HGL) (uh HBT)).mono ?_
    rintro e wn ⟨rfl,gn⟩
    have HGN:=hide (tn (uh HGL) gn)
    have HBU:=hide ((uh HBT).kept gn (fun _ e=>by cases e))
    have HLW:=hide gn.size
    clear gn
    go_wp2_with fail
    refine hK9.out _ _ (uh HGN) (fun _ => ?_)
    clear hK9 K9
    (try simp only[pq])
    refine rdq 7 (some 7) (.alloc 106) (fun K9 hK9 => ?_)
    go_simp
    refine hK9.out _ _ (zad (uh HGN) _) (fun _ => ?_)
    clear hK9 K9
    (try simp only[pq])
    obtain ⟨Wa,hWa,hBa,gA⟩:=zal wn 106 Zr
    rw[← show Wa=wn.alloc (.cells Zr.toArray 106) from hWa]
    have HPA:=hide (show W1.heap.size≤wn.heap.size from (uh HGN).size)
    have hga:W1.grownBy Wa none:=tn (uh HGN) gA
    have HOF:=hide (show Off bo wn.heap.size from fun ad e e2=>by have h8:=(uh HBU).lt ad e (uh HTN);omega)
    have HBV:=hide ((uh HBU).kept gA (fun _ e=>by cases e))
    clear hWa gA
    refine rdq 8 none (.store 106 (.tmp 7) (.tmp 15)) (fun K9 hK9 => ?_)
    rw[if_pos (by rfl)]
    refine wp_store_row _ _ _ rfl (wn.heap.size) (rcC g2 r2 nt (shaL T) (.slice bo nt bc)).toArray rfl rfl _ _ hBa (by simp[zbe (zbg T),zbb]) (by simp[zbe (zbg T),uh HZL]) (all_oneCell_toArray (zc7 _ _ _ _ rfl)) ?_
    refine hK9.out _ _ (zai hga _ (Or.inl (uh HPA))) (fun _ => ?_)
    clear hK9 K9
    (try simp only[Act.put])
    refine wpAnyH_done (by kernel_rfl) ?_ _
    refine NoPanic.normal ?_
    have HFB:=hide (hBa.row (rcC g2 r2 nt (shaL T) (.slice bo nt bc)))
    have HFT:=hide ((uh HBV).kept (zai (zaa _ (some (wn.heap.size))) (rcC g2 r2 nt (shaL T) (.slice bo nt bc)).toArray (Or.inr rfl)) (fun y e=>by cases e;exact uh HOF))
    have HFG:=hide (zai hga (rcC g2 r2 nt (shaL T) (.slice bo nt bc)).toArray (Or.inl (uh HPA)))
    go_wp2
    go_meet
    case rel=>exact ⟨_,bo,bc,rfl,uh HPA,uh HFB,uh HFT,uh HFL,uh HFG⟩
   ·go_simp
    refine hK9.out _ _ (zad (uh HGL) _) (fun _ => ?_)
    clear hK9 K9
    (try simp only[pq])
    obtain ⟨Wa,hWa,hBa,gA⟩:=zal wl 106 Zr
    rw[← show Wa=wl.alloc (.cells Zr.toArray 106) from hWa]
    have HPA:=hide (show W1.heap.size≤wl.heap.size from (uh HGL).size)
    have hga:W1.grownBy Wa none:=tn (uh HGL) gA
    have HOF:=hide (show Off bo wl.heap.size from fun ad e e2=>by have h8:=(uh HBT).lt ad e (uh HTN);omega)
    have HBV:=hide ((uh HBT).kept gA (fun _ e=>by cases e))
    clear hWa gA
    refine rdq 6 (some 15) (.call { callee := .value (.func 57),args := #[(.tmp 10),(.tmp 12),(.tmp 14)],argTypes := #[45,45,53] }) (fun K9 hK9 => ?_)
    go_simp
    go_at_call 57
    refine (uh HNR _ bo bc hga (uh HBV)).mono ?_
    rintro e wn ⟨rfl,gn⟩
    have HGN:=hide (tn hga gn)
    have HBU:=hide ((uh HBV).kept gn (fun _ e=>by cases e))
    have HBC:=hide (hBa.kept gn (by simp))
    have HLW:=hide gn.size
    clear gn
    go_wp2_with fail
    refine hK9.out _ _ (uh HGN) (fun _ => ?_)
    clear hK9 K9
    (try simp only[pq])
    refine rdq 8 none (.store 106 (.tmp 7) (.tmp 15)) (fun K9 hK9 => ?_)
    rw[if_pos (by rfl)]
    refine wp_store_row _ _ _ rfl (wl.heap.size) (rcC g2 r2 nt (shaL T) (.slice bo nt bc)).toArray rfl rfl _ _ (uh HBC) (by simp[zbe (zbg T),zbb]) (by simp[zbe (zbg T),uh HZL]) (all_oneCell_toArray (zc7 _ _ _ _ rfl)) ?_
    refine hK9.out _ _ (zai (uh HGN) _ (Or.inl (uh HPA))) (fun _ => ?_)
    clear hK9 K9
    (try simp only[Act.put])
    refine wpAnyH_done (by kernel_rfl) ?_ _
    refine NoPanic.normal ?_
    have HFB:=hide ((uh HBC).row (rcC g2 r2 nt (shaL T) (.slice bo nt bc)))
    have HFT:=hide ((uh HBU).kept (zai (zaa _ (some (wl.heap.size))) (rcC g2 r2 nt (shaL T) (.slice bo nt bc)).toArray (Or.inr rfl)) (fun y e=>by cases e;exact uh HOF))
    have HFG:=hide (zai (uh HGN) (rcC g2 r2 nt (shaL T) (.slice bo nt bc)).toArray (Or.inl (uh HPA)))
    go_wp2
    go_meet
    case rel=>exact ⟨_,bo,bc,rfl,uh HPA,uh HFB,uh HFT,uh HFL,uh HFG⟩
  ·go_simp
   refine hK9.out _ _ (zad h0 _) (fun _ => ?_)
   clear hK9 K9
   (try simp only[pq])
   obtain ⟨Wb,hWb,hBb,gB⟩:=zal W1 106 Zr
   rw[← show Wb=W1.alloc (.cells Zr.toArray 106) from hWb]
   obtain ⟨Wa,hWa⟩:∃ W,W=Wb.drew:=⟨_,rfl⟩
   rw[← hWa]
   have hBa:Blk Wa W1.heap.size 106 Zr:=by rw[hWa];exact hBb.kept (zab (zaa Wb none)) (by simp)
   have hga:W1.grownBy Wa none:=by rw[hWa];exact zab gB
   have HPA:=hide (Nat.le_refl W1.heap.size)
   clear hWa hWb hBb gB
   refine rdq 5 (some 14) (.call { callee := .value (.func 58),args := #[(.tmp 13)],argTypes := #[34] }) (fun K9 hK9 => ?_)
   go_simp
   go_at_call 58
   refine (uh HLD _ hga).mono ?_
   rintro e wl ⟨bo,bc,rfl,hbl,hfl,gl⟩
   have HGL:=hide (tn hga gl)
   have HBT:=hide hbl
   have HFL:=hide (show ∀ ad,bo=some ad→W1.heap.size≤ad.block from fun ad e=>Nat.le_trans hga.size (hfl ad e))
   have HOF:=hide (show Off bo W1.heap.size from fun ad e e2=>by have h8:=hfl ad e;have h9:=hBa.lt;omega)
   have HBA:=hide (hBa.kept gl (by simp))
   clear hbl hfl gl
   go_wp2_with fail
   refine hK9.out _ _ (uh HGL) (fun _ => ?_)
   clear hK9 K9
   (try simp only[pq])
   refine rdq 6 (some 15) (.call { callee := .value (.func 57),args := #[(.tmp 10),(.tmp 12),(.tmp 14)],argTypes := #[45,45,53] }) (fun K9 hK9 => ?_)
   go_simp
   go_at_call 57
   refine (uh HNR _ bo bc (uh HGL) (uh HBT)).mono ?_
   rintro e wn ⟨rfl,gn⟩
   have HGN:=hide (tn (uh HGL) gn)
   have HBU:=hide ((uh HBT).kept gn (fun _ e=>by cases e))
   have HBC:=hide ((uh HBA).kept gn (by simp))
   have HLW:=hide gn.size
   clear gn
   go_wp2_with fail
   refine hK9.out _ _ (uh HGN) (fun _ => ?_)
   clear hK9 K9
   (try simp only[pq])
   refine rdq 8 none (.store 106 (.tmp 7) (.tmp 15)) (fun K9 hK9 => ?_)
   rw[if_pos (by rfl)]
   refine wp_store_row _ _ _ rfl (W1.heap.size) (rcC g2 r2 nt (shaL T) (.slice bo nt bc)).toArray rfl rfl _ _ (uh HBC) (by simp[zbe (zbg T),zbb]) (by simp[zbe (zbg T),uh HZL]) (all_oneCell_toArray (zc7 _ _ _ _ rfl)) ?_
   refine hK9.out _ _ (zai (uh HGN) _ (Or.inl (uh HPA))) (fun _ => ?_)
   clear hK9 K9
   (try simp only[Act.put])
   refine wpAnyH_done (by kernel_rfl) ?_ _
   refine NoPanic.normal ?_
   have HFB:=hide ((uh HBC).row (rcC g2 r2 nt (shaL T) (.slice bo nt bc)))
   have HFT:=hide ((uh HBU).kept (zai (zaa _ (some (W1.heap.size))) (rcC g2 r2 nt (shaL T) (.slice bo nt bc)).toArray (Or.inr rfl)) (fun y e=>by cases e;exact uh HOF))
   have HFG:=hide (zai (uh HGN) (rcC g2 r2 nt (shaL T) (.slice bo nt bc)).toArray (Or.inl (uh HPA)))
   go_wp2
   go_meet
   case rel=>exact ⟨_,bo,bc,rfl,uh HPA,uh HFB,uh HFT,uh HFL,uh HFG⟩
 case rest =>
  obtain ⟨q,bo,bc,rfl,hq,hBq,hbt,hbo,gx⟩:=hcut
  obtain ⟨b,o,hbo2⟩:=zhk hbt (by have:=(uh HNT2).1;have:=uh HNT;omega)
  subst hbo2
  obtain ⟨RC,hRC⟩:∃ R,R=rcC g2 r2 nt (shaL T) (.slice (some ⟨b,o,none⟩) nt bc):=⟨_,rfl⟩
  rw[← hRC] at hBq
  have hRl:RC.length=36:=by rw[hRC];exact zbe (zbg T)
  obtain ⟨X,hX⟩:∃ X,X=swD D p2 g2 r2 (L.map ChI.chg):=⟨_,rfl⟩
  obtain ⟨X1,X2⟩:=X
  have hFw:=uh HFW
  have hs1:W1.heap.size=w.heap.size+1:=by rw[uh HW1,World.size_alloc]
  have hgx:=gx.size
  have HRW:=hide (show ∀ V,wc.grownBy V none→Calls Tryz.prog 59 #[.agg RC.toArray,.pointer (some ⟨d,0,none⟩),.int .i64 (p2:Int)] V fun e w'=>e = .returned (.int .i64 X2)∧Lf u V w' F d X1 from fun V gV=>by
   have:=ziw ((uh HD).nn (tn gx gV)) (uh HUU) g2 r2 (shaL T) (zbg T) b o bc T (hbt.kept gV (fun _ e=>by cases e)) (by have:=(uh HNT2).1;have:=uh HNT;omega) (by have:=(uh HNT2).2;have:=uh HNT;omega) p2 (by have:=uh HPP;have:=uh HMOST;omega)
   rw[← uh HNT,← hRC] at this
   have e1:zel D p2 (za2 (mkB g2 r2 nt (shaL T))) ((List.range (secN nt)).map (secB T))=(X1,X2):=by
    rw[hX,uh HNT,zhi,uh HT2]
    rfl
   rw[e1] at this
   exact this)
  have HRL:=hide (show (Tryz.prog.info? 106).map (·.size)=some RC.length by rw[hRl];exact zbb)
  have HBQ:=hide hBq
  have HNQ:=hide (show q∉F from fun hx=>by have:=(hFw q hx).2;omega)
  have HN4:=hide (show w.heap.size∉F from fun hx=>by have:=(hFw _ hx).2;omega)
  have HNS:=hide (show s∉F from uh HSF)
  have hbs:=(uh HBS).kept gx (by simp)
  have hb4:=(uh HB1).kept gx (by simp)
  have HCD:=hide (show wc.cell? ⟨s,0,none⟩=some (.pointer (some ⟨d,0,none⟩)) by rw[hbs.cell 0];rfl)
  have HCP:=hide (show wc.cell? ⟨w.heap.size,2,none⟩=some (.int .i64 (p2:Int)) by rw[hb4.cell 2,uh HH0];rfl)
  have HBS2:=hide hbs
  have HB42:=hide (show Blk wc w.heap.size 69 (hfC f2 e2 p2 g2 r2 m2) by rw[← uh HH0];exact hb4)
  obtain ⟨HXX,HGX,HRCE⟩:=zh3 hX gx hRC
  have hqs:=hq
  have HQ1:=hide (show w.heap.size<q by omega)
  clear hRC hRl hX hFw hs1 hgx hBq hbt hbo gx hbs hb4 hq hqs
  go_upto_region 2 with fail
  refine wp_region_noPanic ?_
  refine wp_region_held_drew (S:=fun V=>Fr wc V F) (by kernel_rfl) (Fr.none (zab (zaa wc none)) F) (fun _ => ?_)
  refine tz 0 16 (.load 106 (.tmp 7)) (.agg RC.toArray) (Fr.none (zab (zaa wc none)) F) ?_ (y:=(yieldsIf_load_mid (by rfl) _ _ rfl _ _ rfl RC _ (fun V hV=>zao (Fr.blk hV (uh HBQ) (uh HNQ))) Tryz.underlying106 rfl (uh HRL)))
  refine tq 1 17 (.move (.tmp 0)) ((.pointer (some ⟨s,0,none⟩))) (Fr.none (zab (zaa wc none)) F) ?_
  refine tq 2 18 (.nilCheck (.tmp 17)) ((.pointer (some ⟨s,0,none⟩))) (Fr.none (zab (zaa wc none)) F) ?_
  refine tq 3 19 (.fieldAddr 71 (.tmp 18) 0) ((.pointer (some ⟨s,0,none⟩))) (Fr.none (zab (zaa wc none)) F) ?_
  (try simp only[pq])
  refine tz 4 20 (.load 23 (.tmp 19)) ((.pointer (some ⟨d,0,none⟩))) (Fr.none (zab (zaa wc none)) F) ?_ (y:=(Or.inl ⟨by rfl,fun V hV=>by (have hv1:=Fr.cell hV (uh HCD) (uh HNS);go_simp)⟩))
  refine tq 5 21 (.fieldAddr 69 (.tmp 4) 2) ((.pointer (some ⟨w.heap.size,2,none⟩))) (Fr.none (zab (zaa wc none)) F) ?_
  refine tz 6 22 (.load 3 (.tmp 21)) ((.int .i64 (p2:Int))) (Fr.none (zab (zaa wc none)) F) ?_ (y:=(Or.inl ⟨by rfl,fun V hV=>by (have hv1:=Fr.cell hV (uh HCP) (uh HN4);go_simp)⟩))
  (try simp only[pq])
  refine rdq 7 (some 23) (.call { callee := .value (.func 59),args := #[(.tmp 16),(.tmp 20),(.tmp 22)],argTypes := #[106,23,3] }) (fun K9 hK9 => ?_)
  go_simp
  go_at_call 59
  refine (uh HRW _ (zab (zaa wc none))).mono ?_
  rintro e w5 ⟨rfl,hl5⟩
  obtain ⟨F',hd5,fr5,hF5⟩:=hl5
  have HD5:=hide hd5
  have HF5:=hide (show Fr wc w5 F from (Fr.none (zab (zaa wc none)) F).trans fr5 (fun x hx=>Or.inl hx))
  have HFS:=hide (show ∀ x∈F',x∈F∨wc.heap.size≤x from hF5)
  clear hd5 fr5 hF5
  go_wp2_with fail
  refine hK9.out _ _ (uh HF5) (fun _ => ?_)
  clear hK9 K9
  refine tq 8 8 (.assign (.tmp 23)) ((.int .i64 X2)) (uh HF5) ?_
  (try simp only[pq])
  refine wpAnyH_done (by kernel_rfl) ?_ _
  refine NoPanic.normal ?_
  have hd5:=uh HD5
  have hf5:=uh HF5
  have hfs:=uh HFS
  have hw15:Fr w w5 F:=(Fr.none (tn (uh HG1) (uh HGX)) F).trans hf5 (fun x hx=>Or.inl hx)
  have hvl:=(uh HVM).lt
  have hml:=uh HML
  have hb5:=hf5.blk (uh HBS2) (uh HNS)
  have hq5:=hf5.blk (uh HBQ) (uh HNQ)
  have h45:=hf5.blk (uh HB42) (uh HN4)
  have hms:m2≠s:=by
   obtain ⟨A,k,hmm,_⟩:=(uh HVM).clone
   intro e
   have hb' : W1.heap[s]? = _:=uh HBS
   rw[e,hb'] at hmm
   cases hmm
  have hwx:w.heap.size≤wc.heap.size:=(tn (uh HG1) (uh HGX)).size
  have hF'w:∀ y∈F',y∈F∨w.heap.size≤y:=fun y hy=>(hfs y hy).imp id (fun e=>Nat.le_trans hwx e)
  have hq4w:wc.heap.size > w.heap.size:=by have:=(uh HB42).lt;omega
  have hnF' : ∀ y,y∉F→y<wc.heap.size→y∉F':=fun y h1 h2 h3=>by rcases hfs y h3 with h4 | h4 <;> first | exact h1 h4 | omega
  by_cases hx0:X2=0
  ·subst hx0
   have hgv:VmW w5 m2 (w.heap.size::s::(F'++F)) V2:=by
    have h1:VmW w m2 (w.heap.size::s::(F'++F)) V2:=(uh HVW).more (fun x hx=>by
     simp only[List.mem_cons,List.mem_append] at hx
     rcases hx with rfl | rfl | hx | hx
     ·exact Or.inr (Or.inl (Nat.le_refl _))
     ·exact Or.inl (by simp)
     ·rcases hF'w x hx with h2 | h2
      ·exact Or.inl (by simp[h2])
      ·exact Or.inr (Or.inl h2)
     ·exact Or.inl (by simp[hx]))
    exact h1.fr hw15 (uh HMF) (fun x hx=>by simp[hx])
   have hcg:CsG w5 ao ac L [m2,w.heap.size]:=by
    have h1:CsG w ao ac L (w.heap.size::m2::s::F):=(uh HCW).more (fun x hx=>by
     simp only[List.mem_cons] at hx
     rcases hx with rfl | hx
     ·exact Or.inr (Nat.le_refl _)
     ·exact Or.inl (by simp only[List.mem_cons];exact hx))
    have h2:=h1.fr hw15 (fun x hx=>by simp[hx])
    exact ⟨h2.is,fun ad e hl hf=>h2.row ad e hl (by simp at hf ⊢;rcases hf with hf | hf <;> simp[hf]),fun x hx ad e hl hf=>h2.val x hx ad e hl (by simp at hf ⊢;rcases hf with hf | hf <;> simp[hf])⟩
   have hLl:L.length≤1000000:=by have:=(uh HMC).1;rw[List.length_map] at this;omega
   have hkl:∀ x∈L,x.key.length≤100000∧x.val.length≤1000000:=fun x hx=>by
    have:=(uh HMC).2 x.chg (List.mem_map.2 ⟨x,hx,rfl⟩)
    have h1:x.key.length≤96:=this.key2
    have h2:x.val.length≤65536:=this.val
    omega
   have hsz5:=hf5.size
   have ct:=zki w5 w.heap.size f2 e2 p2 g2 r2 m2 g2 r2 nt (shaL T) (.slice (some ⟨b,o,none⟩) nt bc) h45 (by have:=(uh HNT2).2;omega) (by have:=uh HPP;have:=uh HMOST;omega) (uh HRR) (w.heap.size::s::(F'++F)) V2 hgv ao ac L hcg hLl hkl (fun x hx=>by
    simp only[List.mem_cons,List.mem_append] at hx
    rcases hx with rfl | rfl | hx | hx
    ·omega
    ·have:=hb5.lt;omega
    ·exact (hd5.lo x hx).2
    ·have:=((uh HD).lo x hx).2;have:=(uh HGX).size;omega) (by simp)
   rw[← uh HRCE] at ct
   have hqb:=zao hq5
   obtain ⟨p3,hp3⟩:∃ p3,p3=p2+(1+secN nt):=⟨_,rfl⟩
   rw[← hp3] at ct
   have hp3' : p2+za9 (L.map ChI.chg)=p3:=by rw[hp3,uh HNT,uh HT2];rfl
   rw[← uh HNL] at ct
   obtain ⟨H1,hH1⟩:∃ H,H=hfC f2 e2 p3 g2 (r2+1) m2:=⟨_,rfl⟩
   rw[← hH1] at ct
   have hH1l:H1.length=6:=by rw[hH1];rfl
   have HHL:=hide (show (Tryz.prog.info? 69).map (·.size)=some H1.length by rw[hH1l];exact zap)
   have HHI:=hide (show (Tryz.prog.info? 69).map (·.size)=some H1.toArray.size by simp[hH1l,zap])
   have HHO:=hide (show H1.toArray.all (·.oneCell')=true by rw[hH1];exact all_oneCell_toArray (zbu _ _ _ _ _ _))
   have hfin:∀ w6,Blk w6 w.heap.size 69 H1→VmW w6 m2 (w.heap.size::s::(F'++F)) (zaj V2 (L.map ChI.chg))→Fr w5 w6 [w.heap.size,m2] →
     w6.there s 1 H1.toArray.size∧(∃ F',Dw u (w6.setCells s 1 H1.toArray.toList) F' d X1∧(∀ y∈F',y∈F∨w.heap.size≤y)∧Fr w (w6.setCells s 1 H1.toArray.toList) (m2::s::F) ∧
      Blk (w6.setCells s 1 H1.toArray.toList) s 71 (stC d f2 e2 p3 g2 (r2+1) m2 st)∧VmW (w6.setCells s 1 H1.toArray.toList) m2 (s::F') (zaj V2 (L.map ChI.chg))):=fun w6 h1 h2 h3=>by
    have hb6:=h3.blk hb5 (by
     have hs4:s≠w.heap.size:=by have:=uh HSL;omega
     simp only[List.mem_cons,List.not_mem_nil,or_false]
     rintro (e | e)
     ·exact hs4 e
     ·exact hms e.symm)
    have hg7:Fr w6 (w6.setCells s 1 H1.toArray.toList) [s]:=Fr.of (zav (Or.inr rfl) _ _ (zaa w6 (some s))) (fun x e=>by cases e;exact Or.inl (by simp))
    have hb7:Blk (w6.setCells s 1 H1.toArray.toList) s 71 (stC d f2 e2 p3 g2 (r2+1) m2 st):=by
     have:=Blk.setCells (A:=[.pointer (some ⟨d,0,none⟩)]) (C:=[.bool st]) H1.toArray.toList (hfC f e p g r m) hb6 (by simp[hH1l,hfC])
     unfold stC
     rw[← hH1]
     simpa using this
    refine ⟨by rw[show H1.toArray.size=6 by simp[hH1l]];exact hb6.there 1 6 (by simp[stC,hfC]),F',?_,hF'w,?_,hb7,?_⟩
    ·have hu1:=uh HUW
     have h7:=(hd5.fr h3 (fun x hx=>by
      simp only[List.mem_cons,List.not_mem_nil,or_false] at hx
      rcases hx with rfl | rfl
      ·exact hu1
      ·exact hml.1) (fun x hx=>by
      simp only[List.mem_cons,List.not_mem_nil,or_false]
      rintro (rfl | rfl)
      ·exact hnF' _ (uh HN4) hq4w hx
      ·exact hnF' _ (uh HMF) (by have:=hml.2;omega) hx))
     exact h7.fr hg7 (fun x hx=>by simp at hx;rw[hx];exact uh HUS) (fun x hx=>by
      simp only[List.mem_cons,List.not_mem_nil,or_false]
      rintro rfl
      exact hnF' _ (uh HNS) (by have:=uh HSL;omega) hx)
    ·refine ((hw15.more (G:=m2::s::F) (fun x hx=>Or.inl (by simp[hx]))).trans h3 (fun x hx => ?_)).trans hg7 (fun x hx=>Or.inl (by simp at hx;simp[hx]))
     simp only[List.mem_cons,List.not_mem_nil,or_false] at hx
     rcases hx with rfl | rfl
     ·exact Or.inr (Nat.le_refl _)
     ·exact Or.inl (by simp)
    ·have h8:=h2.fr hg7 (by simpa using hms) (fun x hx=>by simp at hx;simp[hx])
     exact h8.more (fun x hx=>Or.inl (by simp only[List.mem_cons] at hx;rcases hx with rfl | hx <;> simp[*]))
   have HFIN:=hide hfin
   have HP3:=hide hp3'
   have HRCL:=hide (show zao hq5=zao hq5 from rfl)
   clear HRCL hfin hp3' hp3 hH1 hH1l hgv hcg hLl hkl hsz5 hd5 hf5 hfs hw15 hvl hml hb5 hq5 h45 hms hwx hF'w hq4w hnF'
   go_wp2_with (first
    | (refine wpList_load_mid rfl 106 _ rfl q 0 rfl RC _ hqb Tryz.underlying106 rfl (uh HRL) ?_;clear hqb)
    | (go_at_call 56;refine ct.mono ?_;rintro e w6 ⟨rfl,hb6,hv6,fr6⟩;obtain ⟨hth,hend⟩:=uh HFIN w6 hb6 hv6 fr6;have HTH:=hide hth;have HEND:=hide hend;have hr6:=zao hb6;clear ct hb6 hv6 fr6 hth hend)
    | (refine wpList_load_mid rfl 69 _ rfl w.heap.size 0 rfl H1 _ hr6 Tryz.underlying69 rfl (uh HHL) ?_;clear hr6)
    | (refine wpList_store_mid rfl 69 _ _ rfl s 1 H1.toArray rfl rfl (uh HTH) (uh HHI) (uh HHO) ?_))
   go_ret
   rw[← uh HXX,uh HP3]
   obtain ⟨F2,q1,q2,q3,q4,q5⟩:=uh HEND
   exact ⟨rfl,F2,q1,q2,q3,fun _=>⟨q4,q5⟩⟩
  ·have hx0b:(X2 == 0)=false:=beq_eq_false_iff_ne.2 hx0
   obtain ⟨W6,hW6⟩:∃ W,W=w5.setCell ⟨s,7,none⟩ (.bool true):=⟨_,rfl⟩
   have hc7:w5.cell? ⟨s,7,none⟩=some (.bool st):=by rw[hb5.cell 7];rfl
   have hf7:=hb5.fz 7
   have hg7:Fr w5 W6 [s]:=by rw[hW6];exact Fr.of (zah (zaa w5 (some s)) _ _ (Or.inr rfl)) (fun x e=>by cases e;exact Or.inl (by simp))
   have hd6:=hd5.fr hg7 (fun x hx=>by simp at hx;rw[hx];exact uh HUS) (fun x hx=>by
    simp only[List.mem_cons,List.not_mem_nil,or_false]
    rintro rfl
    exact hnF' _ (uh HNS) (by have:=uh HSL;omega) hx)
   have HD6:=hide hd6
   have HFW6:=hide (show ∀ y∈F',y∈F∨w.heap.size≤y from hF'w)
   have HF6:=hide (show Fr w W6 (m2::s::F) from (hw15.more (G:=m2::s::F) (fun x hx=>Or.inl (by simp[hx]))).trans hg7 (fun x hx=>Or.inl (by simp at hx;simp[hx])))
   obtain ⟨HW6,HX0⟩:=zh2 hW6 hx0
   clear hd5 hf5 hfs hw15 hvl hml hb5 hq5 h45 hms hwx hF'w hq4w hnF' hW6 hg7 hd6
   go_wp2_with (rw[← uh HW6])
   go_ret
   rw[← uh HXX]
   exact ⟨rfl,F',uh HD6,uh HFW6,uh HF6,fun e=>absurd e (uh HX0)⟩
theorem zf6 {S:List (List UInt8)} {U:List (Nat × List UInt8)} {p:Nat} {b:List UInt8} : ∀ k,p+1+k≤S.length→za0 p ⟨S,U,-1,false⟩ 0 ((List.range k).map (secB b))=(⟨S,U++secU p b k,-1,false⟩,0)
 | 0,_=>by simp[za0,secU]
 | k+1,h=>by
   rw[List.range_succ,List.map_append,zdg,zf6 k (by omega)]
   simp only[if_pos,List.map_cons,List.map_nil,List.length_map,List.length_range,Nat.zero_add,za0]
   have:=zly (D:=⟨S,U++secU p b k,-1,false⟩) rfl (show (-1:Int)<0 by decide) (i:=p+1+k) (by simp only;omega) (b:=secB b k) (by rw[zcg];decide)
   rw[show (((p+1+k:Nat):Int))=(p:Int)+1+(k:Int) by omega] at this
   rw[this]
   simp only[if_pos,zhx (zcg b k),zhw,List.append_assoc]
theorem zhm {S:List (List UInt8)} (hS:∀ s∈S,s.length=256) {p g r:Nat} {l:List Chg} (hp:p+za9 l≤S.length):swD ⟨S,[],-1,false⟩ p g r l=(⟨wrS shaL S p g r l,[],-1,false⟩,0):=by
 have hp2:zat p l≤S.length:=by rw[zbl];exact hp
 have hp3:p+1+secN (recB l).length≤S.length:=by unfold zat at hp2;exact hp2
 have h1:=zf6 (S:=S) (U:=[]) (p:=p) (b:=recB l) _ hp3
 have hlen:∀ (f:Nat→Int) (U:List (Nat × List UInt8)) (k:Nat) (T:List (List UInt8)),(za1 f k U T).length=T.length:=by
  intro f U
  induction U with
  | nil=>intro k T;rfl
  | cons x U ih=>intro k T;rw[za1,ih];simp[lay1]
 have h3:=zkv zbg (g:=g) (n:=r) hS hp2
 have hmk:(za2 (zbh shaL g r (recB l))).length=256:=zdv (zb5 zbg g r (recB l))
 have hlen2:=hlen (fun _=>256)
 unfold swD
 generalize za2 (zbh shaL g r (recB l))=mk at hmk h3 ⊢
 generalize (List.range (secN (recB l).length)).map (secB (recB l))=ss at h1 ⊢
 generalize secU p (recB l) (secN (recB l).length)=UU at h1 h3
 generalize wrS shaL S p g r l=R at h3 ⊢
 rw[List.nil_append] at h1
 have e1:syD ⟨S,UU,-1,false⟩=(⟨za1 (fun _=>256) 0 UU S,[],-1,false⟩,0):=zlz rfl (show (-1:Int)<0 by decide)
 have hTl:(za1 (fun _=>256) 0 UU S).length=S.length:=hlen2 _ _ _
 generalize za1 (fun _=>256) 0 UU S=T at e1 h3 hTl
 have h2:wrD ⟨T,[],-1,false⟩ (p:Int) mk=(⟨T,[(p,padS mk)],-1,false⟩,0):=zly (D:=⟨T,[],-1,false⟩) rfl (show (-1:Int)<0 by decide) (by show p<T.length;omega) (by omega)
 rw[zhx hmk] at h2
 have e3:syD ⟨T,[(p,mk)],-1,false⟩=(⟨R,[],-1,false⟩,0):=by
  rw[← h3]
  exact zlz rfl (show (-1:Int)<0 by decide)
 unfold zel
 rw[h1]
 simp only[if_pos]
 rw[e1]
 simp only[if_pos]
 rw[h2]
 simp only[if_pos]
 rw[e3]
structure SAc where
 kind:Int
 ao:Option Addr
 ac:Nat
 L:List ChI
deriving Inhabited
def saC (p:SAc):List Value:=[.int .i64 p.kind,.slice p.ao p.L.length p.ac]
structure SActs (w:World) (ao:Option Addr) (c:Nat) (L:List SAc):Prop where
 row:RwO w 2 saC ao c L
 ats:∀ p∈L,CsI w p.ao p.ac p.L
theorem SActs.kept {w a:World} {ao:Option Addr} {c:Nat} {L:List SAc} (h:SActs w ao c L) (g:w.grownBy a none):SActs a ao c L:=⟨h.row.kept g,fun p hp=>(h.ats p hp).kept g⟩
theorem RwO.lt {α:Type} {w:World} {K:Nat} {f:α→List Value} {ao:Option Addr} {c:Nat} {L:List α} (h:RwO w K f ao c L) (hf:∀ x,f x≠[]) {ad:Addr} (e:ao=some ad) (hl:L≠[]):ad.block<w.heap.size:=by
 obtain ⟨x,r,rfl⟩:=List.exists_cons_of_ne_nil hl
 obtain ⟨y,s,hy⟩:=List.exists_cons_of_ne_nil (hf x)
 have h1:=h.row ad e 0 (by simp) 0 y (by simp[hy])
 have h2:=World.block_lt_of_cell? w _ h1
 exact h2
theorem CsI.csg {u w:World} {ao:Option Addr} {c:Nat} {L:List ChI} (h:CsI u ao c L) (g:u.grownBy w none) {G:List Nat} (hG:∀ x∈G,u.heap.size≤x):CsG w ao c L G :=
 ⟨h.kept g,fun ad e hl hm=>by have h1:=h.row.lt (fun x hx=>by cases hx) e hl;have h2:=hG _ hm;omega,
  fun x hx ad e hl hm=>by have h1:=(h.val x hx).lt ad e hl;have h2:=hG _ hm;omega⟩
open Go.ChangeShapes Go.WideShapes Go.ChangeAt Go.Deep
theorem ziz:∃ f0 f1 f2:Field,Tryz.prog.underlying 55=some (.struct #[f0,f1,f2])∧(f0.type=9∧f0.offset=0)∧(f1.type=53∧f1.offset=1)∧(f2.type=4∧f2.offset=2) :=
 ⟨_,_,_,Tryz.underlying55,⟨rfl,rfl⟩,⟨rfl,rfl⟩,⟨rfl,rfl⟩⟩
theorem zi0:∃ f0 f1:Field,Tryz.prog.underlying 36=some (.struct #[f0,f1])∧(f0.type=3∧f0.offset=0)∧(f1.type=34∧f1.offset=1) :=
 ⟨_,_,Tryz.underlying36,⟨rfl,rfl⟩,⟨rfl,rfl⟩⟩
theorem zjk {H:Type} {enc:TypeId × Value→H} {W:World} {n:Nat} {cs:List Value} {x:DataW H × List MemPlace} (h:DataW.trod enc Tryz.prog W 0 (fun _=>true) true n 55 cs=some x) :
  ∃ p:ChI,cs=ciC p∧Bts W p.bo p.bc p.val:=by
 obtain ⟨f0,f1,f2,he,⟨t0,o0⟩,⟨t1,o1⟩,⟨t2,o2⟩⟩:=ziz
 have k0:Tryz.prog.cellsOf 9=1:=by kernel_rfl
 have k1:Tryz.prog.cellsOf 53=1:=by kernel_rfl
 have k2:Tryz.prog.cellsOf 4=1:=by kernel_rfl
 have k5:Tryz.prog.cellsOf 55=3:=by kernel_rfl
 obtain ⟨xs,k,hk,hxy,hl,hxl,hf⟩:=DataW.trod_struct he h
 rw[k5] at hl
 match xs,hxl,cs,hl with
 | [y0,y1,y2],_,[v0,v1,v2],_ =>
   have g0:=hf 0 f0 rfl
   have g1:=hf 1 f1 rfl
   have g2:=hf 2 f2 rfl
   rw[t0,o0,k0] at g0
   rw[t1,o1,k1] at g1
   rw[t2,o2,k2] at g2
   simp only[List.drop_zero,List.drop_succ_cons,List.take_succ_cons,List.take_zero,List.getElem?_cons_zero,List.getElem?_cons_succ] at g0 g1 g2
   obtain ⟨s,e0,_,_⟩:=DataW.trod_string Tryz.underlying9 g0
   obtain ⟨l1,a1,c1,e1,b1⟩:=zo0 g1
   obtain ⟨b,e2,_⟩:=DataW.trod_bool Tryz.underlying4 g2
   simp only[List.cons.injEq,and_true] at e0 e2
   refine ⟨⟨s.data.toList,a1,c1,l1,b⟩,?_,b1⟩
   rw[e0,e1,e2]
   rfl
theorem zlr {H:Type} {enc:TypeId × Value→H} {W:World} {n:Nat} {cs:List Value} {x:DataW H × List MemPlace} (h:DataW.trod enc Tryz.prog W 0 (fun _=>true) true n 36 cs=some x) :
  ∃ p:SAc,cs=saC p∧CsI W p.ao p.ac p.L:=by
 obtain ⟨f0,f1,he,⟨t0,o0⟩,⟨t1,o1⟩⟩:=zi0
 have k0:Tryz.prog.cellsOf 3=1:=by kernel_rfl
 have k1:Tryz.prog.cellsOf 34=1:=by kernel_rfl
 have k5:Tryz.prog.cellsOf 36=2:=by kernel_rfl
 obtain ⟨xs,k,hk,hxy,hl,hxl,hf⟩:=DataW.trod_struct he h
 rw[k5] at hl
 match xs,hxl,cs,hl with
 | [y0,y1],_,[v0,v1],_ =>
   have g0:=hf 0 f0 rfl
   have g1:=hf 1 f1 rfl
   rw[t0,o0,k0] at g0
   rw[t1,o1,k1] at g1
   simp only[List.drop_zero,List.drop_succ_cons,List.take_succ_cons,List.take_zero,List.getElem?_cons_zero,List.getElem?_cons_succ] at g0 g1
   obtain ⟨z0,e0,_,_⟩:=DataW.trod_int Tryz.underlying3 g0
   obtain ⟨L,ao,c,hv,h1,h2,h3,h4,h5,h6⟩:=zix (α:=ChI) (K:=3) ciC (fun p _=>Bts W p.bo p.bc p.val) Tryz.underlying34 (by kernel_rfl) (by decide) (fun n cs y hy=>zjk hy) g1
   simp only[List.cons.injEq,and_true] at e0
   refine ⟨⟨z0,ao,c,L⟩,?_,⟨h1,h2,h3,h4,h5⟩,fun r hr=>by obtain ⟨_,e,_⟩:=h6 r hr;exact e⟩
   rw[e0,hv]
   rfl
theorem zls {H:Type} {enc:TypeId × Value→H} {W:World} {a:Option Addr} {len cap:Nat} {d:DataW H} {p:List MemPlace} (h:DataW.Trod enc Tryz.prog W 0 (fun _=>true) true 22 (.slice a len cap) d p) :
  ∃ L:List SAc,L.length=len∧SActs W a cap L:=by
 obtain ⟨fuel,hf⟩:=h
 obtain ⟨L,ao,c,hv,h1,h2,h3,h4,h5,h6⟩:=zix (α:=SAc) (K:=2) (v := .slice a len cap) saC (fun p _=>CsI W p.ao p.ac p.L) Tryz.underlying22 (by kernel_rfl) (by decide) (fun n cs y hy=>zlr hy) (by simpa[Value.cells] using hf)
 injection hv with e1 e2 e3
 subst e1 e2 e3
 exact ⟨L,rfl,⟨h1,h2,h3,h4,h5⟩,fun r hr=>by obtain ⟨_,e,_⟩:=h6 r hr;exact e⟩
end Go.Proofs.YtoilcpdhhlcidaaGreatDoor
