/- Lemmas. -/
import Derived.Test.YtoilcpdhhlcidaaGreatDoorSActo
namespace Go.Proofs.YtoilcpdhhlcidaaGreatDoor
open Go.RowKit
theorem CsG.sub {w:World} {ao:Option Addr} {c:Nat} {L:List ChI} {G H:List Nat} (h:CsG w ao c L G) (hs:∀ x∈H,x∈G):CsG w ao c L H :=
 ⟨h.is,fun ad e hl hf=>h.row ad e hl (hs _ hf),fun x hx ad e hl hf=>h.val x hx ad e hl (hs _ hf)⟩
set_option maxRecDepth 100000 in
set_option maxHeartbeats 4000000 in
theorem zqf {u w:World} {F:List Nat} {d:Nat} {S:List (List UInt8)} (h:Dw u w F d ⟨S,[],-1,false⟩) (hT:Tabs w) (s f e p g r m n:Nat) (st:Bool) (hb:Blk w s 71 (stC d f e p g r m st)) (hs:s∉F) (hus:u.heap.size≤s)
  (V:List (List UInt8 × List UInt8)) (hv:VmW w m (s::F) V) (ao:Option Addr) (ac:Nat) (L:List ChI) (hc:CsI w ao ac L) (hm:MayC (L.map ChI.chg)) (he:e=f+n) (hf:f≤n) (hn:2*n≤S.length)
  (hk:∀ y∈V,1≤y.1.length∧y.1.length≤96∧y.2.length≤65536) (hV:V.length≤100000) (hg:g+1<9223372036854775808) :
  Calls Tryz.prog 39 #[.pointer (some ⟨s,0,none⟩),.slice ao L.length ac] w fun x w' =>
   (¬ (MayC (allC (zal V (L.map ChI.chg)))∧zbc (allC (zal V (L.map ChI.chg)))≤n)∧x = .returned (.int .i64 15)∧w.grownBy w' none) ∨
   ((MayC (allC (zal V (L.map ChI.chg)))∧zbc (allC (zal V (L.map ChI.chg)))≤n)∧x = .returned (.int .i64 0)∧∃ F' m2,Dw u w' F' d ⟨wrS shaL S (n - f) (g+1) 0 (allC (zal V (L.map ChI.chg))),[],-1,false⟩∧(∀ y∈F',y∈F∨w.heap.size≤y)∧Fr w w' (s::F) ∧
     Blk w' s 71 (stC d (n - f) (n - f+n) (n - f+zbc (allC (zal V (L.map ChI.chg)))) (g+1) 1 m2 st)∧VmW w' m2 (s::F') (zal V (L.map ChI.chg))∧w.heap.size≤m2∧m2∉F'):=by
 obtain ⟨Y,hY⟩:∃ Y:List Value,Y=[.int .i64 0,.int .i64 0,.int .i64 0,.int .u64 0,.int .u64 0,.map none]:=⟨_,rfl⟩
 have hzv:=zdh
 rw[show (#[.int .i64 0,.int .i64 0,.int .i64 0,.int .u64 0,.int .u64 0,.map none]:Array Value)=Y.toArray by rw[hY]] at hzv
 have HYL:=hide (show Y.length=6 by rw[hY];rfl)
 have hmost:S.length≤2048:=h.at_.ok.most
 have hwide:∀ x∈S,x.length=256:=h.at_.ok.wide
 have hr0:RisK V:=hv.1
 obtain ⟨AL,hAL⟩:∃ A,A=allC (zal V (L.map ChI.chg)):=⟨_,rfl⟩
 obtain ⟨V2,hV2⟩:∃ A,A=zal V (L.map ChI.chg):=⟨_,rfl⟩
 have hall:zal [] AL=V2:=by rw[hAL,hV2];exact zis (zbw _ hr0)
 obtain ⟨f2,hf2⟩:∃ x,x=n - f:=⟨_,rfl⟩
 obtain ⟨e2,he2⟩:∃ x,x=n - f+n:=⟨_,rfl⟩
 obtain ⟨nL,hnL⟩:∃ x,x=L.length:=⟨_,rfl⟩
 rw[← hAL,← hV2,← he2,← hf2]
 have hot:∀ V,w.grownBy V none→Calls Tryz.prog 63 #[.pointer (some ⟨s,1,none⟩)] V fun r w'=>∃ m,r = .returned (.agg (hfC f2 e2 f2 (g+1) 0 m).toArray)∧SmapAt w' m []∧V.heap.size≤m∧V.grownBy w' none:=fun V gV=>by
  have hb':=hb.kept gV (by simp)
  have:=zoo V s 1 f e n g (by rw[hb'.cell 1];rfl) (by rw[hb'.cell 2];rfl) (by rw[hb'.cell 4];rfl) he hf (by omega) (by omega)
  rw[← he2,← hf2] at this
  exact this
 have hwt:∀ V (X:List Nat),w.grownBy V none→(∀ x∈X,w.heap.size≤x∧x<V.heap.size)→Calls Tryz.prog 64 #[.pointer (some ⟨s,1,none⟩),.slice ao nL ac] V fun r w'=>∃ (A:List ChI) (lo:Option Addr) (lc:Nat),r = .returned (.slice lo A.length lc)∧CsG w' lo lc A (X++s::F)∧A.map ChI.chg=AL∧V.grownBy w' none:=fun W X gW hX=>by
  have hb':=hb.kept gW (by simp)
  have hv' : VmW W m (X++s::F) V:=(hv.more (fun x hx=>by
   rcases List.mem_append.1 hx with hx | hx
   ·exact Or.inr (Or.inl (hX x hx).1)
   ·exact Or.inl hx)).nn gW
  have:=zqe W s 1 m (X++s::F) V (by rw[hb'.cell 6];rfl) hv' (fun x hx=>by
   rcases List.mem_append.1 hx with hx | hx
   ·exact (hX x hx).2
   ·simp only[List.mem_cons] at hx
    rcases hx with rfl | hx
    ·exact hb'.lt
    ·exact Nat.lt_of_lt_of_le (h.lo x hx).2 gW.size) ao ac L (hc.kept gW) hm hk hV
  rw[← hnL,← hAL] at this
  exact this
 rw[← hnL]
 obtain ⟨HOT,HWT,HD,HTB,HBS,HSF⟩:=zh6 hot hwt h hT hb hs
 obtain ⟨HUS,HALL⟩:=zh2 hus hall
 have HNN:=hide (show f2≤n∧e2=f2+n∧2*n≤S.length∧S.length≤2048 from ⟨by omega,by omega,hn,hmost⟩)
 have HWD:=hide hwide
 have HGB:=hide (show g+1<9223372036854775808 from hg)
 have HCG:=hide (show w.cell? ⟨s,4,none⟩=some (.int .u64 (g:Int)) by rw[hb.cell 4];rfl)
 have HAC:=hide (show AL.length≤200000 by
  rw[hAL]
  have h1:=hm.1
  have:∀ (l:List Chg) (V:List (List UInt8 × List UInt8)),(zal V l).length≤V.length+l.length:=by
   intro l
   induction l with
   | nil=>intro V;simp[zal]
   | cons c l ih =>
     intro V
     have h1:=ih (zbr V c)
     have h2:(zbr V c).length≤V.length+1:=by
      unfold zbr
      split
      ·have:=List.length_filter_le (fun x:List UInt8 × List UInt8=>x.1 != c.key) V
       unfold delK
       omega
      ·exact zh8 _ _ _
     show (zal (zbr V c) l).length≤_
     rw[List.length_cons]
     omega
  have:=this (L.map ChI.chg) V
  unfold allC
  rw[List.length_map]
  omega)
 clear hot hwt h hT hb hs hus hv hc hm he hf hn hk hV hg hY hmost hwide hr0 hAL hV2 hall hf2 he2 hnL
 go_enter Tryz.func39,Tryz.ntmps39
 go_upto_region 1 with fail
 go_cut [5,6] (fun x5 x6 wx=>∃ (q m2:Nat) (A:List ChI) (lo:Option Addr) (lc:Nat),x5 = .pointer (some ⟨q,0,none⟩)∧x6 = .slice lo A.length lc∧w.heap.size≤q∧Blk wx q 69 (hfC f2 e2 f2 (g+1) 0 m2)∧SmapAt wx m2 []∧w.heap.size≤m2∧CsG wx lo lc A (m2::s::F)∧A.map ChI.chg=AL∧w.grownBy wx none)
 case first =>
  have h0:w.grownBy w.drew none:=zaa (zac w none)
  refine wp_region_noPanic ?_
  refine wp_region_held_drew (S:=fun V=>w.grownBy V none) (by kernel_rfl) h0 (fun _ => ?_)
  refine tq 0 7 (.move (.tmp 0)) ((.pointer (some ⟨s,0,none⟩))) h0 ?_
  refine tq 1 8 (.nilCheck (.tmp 7)) ((.pointer (some ⟨s,0,none⟩))) h0 ?_
  refine tq 2 9 (.fieldAddr 71 (.tmp 8) 1) ((.pointer (some ⟨s,1,none⟩))) h0 ?_
  refine tq 4 11 (.move (.tmp 0)) ((.pointer (some ⟨s,0,none⟩))) h0 ?_
  (try simp only[pq])
  refine tq 5 12 (.nilCheck (.tmp 11)) ((.pointer (some ⟨s,0,none⟩))) h0 ?_
  refine tq 6 13 (.fieldAddr 71 (.tmp 12) 1) ((.pointer (some ⟨s,1,none⟩))) h0 ?_
  refine tq 7 14 (.move (.tmp 1)) ((.slice ao nL ac)) h0 ?_
  (try simp only[pq])
  refine wpAnyH_ready (rs:=[3,9]) (by kernel_rfl) (by simp) ?_
  refine AllReadyH.cons (o:=⟨some 10,.call { callee := .value (.func 63),args := #[(.tmp 9)],argTypes := #[69] },_,_,_,_⟩) rfl (fun K9 hK9 => ?_) (AllReadyH.cons (o:=⟨some 5,.alloc 69,_,_,_,_⟩) rfl (fun K9 hK9 => ?_) AllReadyH.nil)
  ·go_simp
   go_at_call 63
   refine (uh HOT _ h0).mono ?_
   rintro e wo ⟨m2,rfl,hmo,hmw,go⟩
   have HGO:=hide (tn h0 go)
   have HMO:=hide hmo
   have HMW:=hide (Nat.le_trans h0.size hmw)
   clear hmo hmw go
   go_wp2_with fail
   refine hK9.out _ _ (uh HGO) (fun _ => ?_)
   clear hK9 K9
   (try simp only[pq])
   refine wpAnyH_ready (rs:=[8,9]) (by kernel_rfl) (by simp) ?_
   refine AllReadyH.cons (o:=⟨some 15,.call { callee := .value (.func 64),args := #[(.tmp 13),(.tmp 14)],argTypes := #[69,34] },_,_,_,_⟩) rfl (fun K9 hK9 => ?_) (AllReadyH.cons (o:=⟨some 5,.alloc 69,_,_,_,_⟩) rfl (fun K9 hK9 => ?_) AllReadyH.nil)
   ·go_simp
    go_at_call 64
    refine (uh HWT _ [m2] (uh HGO) (fun x hx=>by have h7:=uh HMW;have h8:=(uh HMO).lt;simp only[List.mem_cons,List.not_mem_nil,or_false] at hx;subst hx;omega)).mono ?_
    rintro e wt ⟨A,lo,lc,rfl,hca,haa,gt⟩
    have HGT:=hide (tn (uh HGO) gt)
    have HMT:=hide ((uh HMO).kept gt (by simp))
    obtain ⟨HCA,HAA⟩:=zh2 hca haa
    clear hca haa gt
    go_wp2_with fail
    refine hK9.out _ _ (uh HGT) (fun _ => ?_)
    clear hK9 K9
    (try simp only[pq])
    refine rdq 9 (some 5) (.alloc 69) (fun K9 hK9 => ?_)
    go_simp
    refine hK9.out _ _ (zaf (uh HGT) _) (fun _ => ?_)
    clear hK9 K9
    (try simp only[pq])
    obtain ⟨Wa,hWa,hBa,gA⟩:=zah wt 69 Y
    rw[← show Wa=wt.alloc (.cells Y.toArray 69) from hWa]
    have HPA:=hide (show w.heap.size≤wt.heap.size from (uh HGT).size)
    have hga:w.grownBy Wa none:=tn (uh HGT) gA
    have HNE:=hide (show some m2≠some wt.heap.size from fun e=>by have h9:=(uh HMT).lt;injection e;omega)
    have HMV:=hide ((uh HMT).kept gA (by simp))
    have HCB:=hide ((CsG.more (H:=[m2,wt.heap.size]++s::F) (uh HCA) (fun x hx=>by simp only[List.mem_append,List.mem_cons,List.not_mem_nil,or_false] at hx ⊢;rcases hx with (rfl | rfl) | hx <;> first | exact Or.inl (Or.inl rfl) | exact Or.inr (Nat.le_refl _) | exact Or.inl (Or.inr hx))).nn gA)
    clear hWa gA
    refine rdq 10 none (.store 69 (.tmp 5) (.tmp 10)) (fun K9 hK9 => ?_)
    rw[if_pos (by rfl)]
    refine wp_store_row _ _ _ rfl (wt.heap.size) (hfC f2 e2 f2 (g+1) 0 m2).toArray rfl rfl _ _ hBa (by simp[hfC,zau]) (by simp[hfC,uh HYL]) (all_oneCell_toArray (zcf _ _ _ _ _ _)) ?_
    refine hK9.out _ _ (zaj hga _ (Or.inl (uh HPA))) (fun _ => ?_)
    clear hK9 K9
    (try simp only[Act.put])
    refine tq 11 6 (.assign (.tmp 15)) ((.slice lo A.length lc)) (zaj hga _ (Or.inl (uh HPA))) ?_
    (try simp only[pq])
    refine wpAnyH_done (by kernel_rfl) ?_ _
    refine NoPanic.normal ?_
    have HFB:=hide (hBa.row (hfC f2 e2 f2 (g+1) 0 m2))
    have HFM:=hide ((uh HMV).kept (zaj (zac _ (some (wt.heap.size))) (hfC f2 e2 f2 (g+1) 0 m2).toArray (Or.inr rfl)) (uh HNE))
    have HFC:=hide (((uh HCB).fr (Fr.of (zaj (zac _ (some (wt.heap.size))) (hfC f2 e2 f2 (g+1) 0 m2).toArray (Or.inr rfl)) (fun x e=>by cases e;exact Or.inl (List.mem_singleton.2 rfl))) (fun x hx=>by simp at hx;simp[hx])).sub (H:=m2::s::F) (fun x hx=>by simp only[List.mem_cons,List.mem_append] at hx ⊢;rcases hx with rfl | hx <;> first | exact Or.inl (Or.inl rfl) | exact Or.inr hx))
    have HFG:=hide (zaj hga (hfC f2 e2 f2 (g+1) 0 m2).toArray (Or.inl (uh HPA)))
    go_wp2
    go_meet
    case rel=>exact ⟨_,m2,A,lo,lc,rfl,rfl,uh HPA,uh HFB,uh HFM,uh HMW,uh HFC,uh HAA,uh HFG⟩
   ·go_simp
    refine hK9.out _ _ (zaf (uh HGO) _) (fun _ => ?_)
    clear hK9 K9
    (try simp only[pq])
    obtain ⟨Wa,hWa,hBa,gA⟩:=zah wo 69 Y
    rw[← show Wa=wo.alloc (.cells Y.toArray 69) from hWa]
    have HPA:=hide (show w.heap.size≤wo.heap.size from (uh HGO).size)
    have hga:w.grownBy Wa none:=tn (uh HGO) gA
    have HNE:=hide (show some m2≠some wo.heap.size from fun e=>by have h9:=(uh HMO).lt;injection e;omega)
    have HMV:=hide ((uh HMO).kept gA (by simp))
    clear hWa gA
    refine rdq 8 (some 15) (.call { callee := .value (.func 64),args := #[(.tmp 13),(.tmp 14)],argTypes := #[69,34] }) (fun K9 hK9 => ?_)
    go_simp
    go_at_call 64
    refine (uh HWT _ [m2,wo.heap.size] hga (fun x hx=>by have h7:=uh HMW;have h8:=(uh HMV).lt;have h9:=hBa.lt;have h10:=uh HPA;simp only[List.mem_cons,List.not_mem_nil,or_false] at hx;rcases hx with rfl | rfl <;> omega)).mono ?_
    rintro e wt ⟨A,lo,lc,rfl,hca,haa,gt⟩
    have HGT:=hide (tn hga gt)
    have HMT:=hide ((uh HMV).kept gt (by simp))
    obtain ⟨HCA,HAA⟩:=zh2 hca haa
    have HBC:=hide (hBa.kept gt (by simp))
    clear hca haa gt
    go_wp2_with fail
    refine hK9.out _ _ (uh HGT) (fun _ => ?_)
    clear hK9 K9
    (try simp only[pq])
    refine rdq 10 none (.store 69 (.tmp 5) (.tmp 10)) (fun K9 hK9 => ?_)
    rw[if_pos (by rfl)]
    refine wp_store_row _ _ _ rfl (wo.heap.size) (hfC f2 e2 f2 (g+1) 0 m2).toArray rfl rfl _ _ (uh HBC) (by simp[hfC,zau]) (by simp[hfC,uh HYL]) (all_oneCell_toArray (zcf _ _ _ _ _ _)) ?_
    refine hK9.out _ _ (zaj (uh HGT) _ (Or.inl (uh HPA))) (fun _ => ?_)
    clear hK9 K9
    (try simp only[Act.put])
    refine tq 11 6 (.assign (.tmp 15)) ((.slice lo A.length lc)) (zaj (uh HGT) _ (Or.inl (uh HPA))) ?_
    (try simp only[pq])
    refine wpAnyH_done (by kernel_rfl) ?_ _
    refine NoPanic.normal ?_
    have HFB:=hide ((uh HBC).row (hfC f2 e2 f2 (g+1) 0 m2))
    have HFM:=hide ((uh HMT).kept (zaj (zac _ (some (wo.heap.size))) (hfC f2 e2 f2 (g+1) 0 m2).toArray (Or.inr rfl)) (uh HNE))
    have HFC:=hide (((uh HCA).fr (Fr.of (zaj (zac _ (some (wo.heap.size))) (hfC f2 e2 f2 (g+1) 0 m2).toArray (Or.inr rfl)) (fun x e=>by cases e;exact Or.inl (List.mem_singleton.2 rfl))) (fun x hx=>by simp at hx;simp[hx])).sub (H:=m2::s::F) (fun x hx=>by simp only[List.mem_cons,List.mem_append] at hx ⊢;rcases hx with rfl | hx <;> first | exact Or.inl (Or.inl rfl) | exact Or.inr hx))
    have HFG:=hide (zaj (uh HGT) (hfC f2 e2 f2 (g+1) 0 m2).toArray (Or.inl (uh HPA)))
    go_wp2
    go_meet
    case rel=>exact ⟨_,m2,A,lo,lc,rfl,rfl,uh HPA,uh HFB,uh HFM,uh HMW,uh HFC,uh HAA,uh HFG⟩
  ·go_simp
   refine hK9.out _ _ (zaf h0 _) (fun _ => ?_)
   clear hK9 K9
   (try simp only[pq])
   obtain ⟨Wb,hWb,hBb,gB⟩:=zah w 69 Y
   rw[← show Wb=w.alloc (.cells Y.toArray 69) from hWb]
   obtain ⟨Wa,hWa⟩:∃ W,W=Wb.drew:=⟨_,rfl⟩
   rw[← hWa]
   have hBa:Blk Wa w.heap.size 69 Y:=by rw[hWa];exact hBb.kept (zaa (zac Wb none)) (by simp)
   have hga:w.grownBy Wa none:=by rw[hWa];exact zaa gB
   have HPA:=hide (Nat.le_refl w.heap.size)
   clear hWa hWb hBb gB
   refine rdq 3 (some 10) (.call { callee := .value (.func 63),args := #[(.tmp 9)],argTypes := #[69] }) (fun K9 hK9 => ?_)
   go_simp
   go_at_call 63
   refine (uh HOT _ hga).mono ?_
   rintro e wo ⟨m2,rfl,hmo,hmw,go⟩
   have HGO:=hide (tn hga go)
   have HMO:=hide hmo
   have HMW:=hide (Nat.le_trans hga.size hmw)
   have HNE:=hide (show some m2≠some (w.heap.size) from fun e=>by have h9:=hBa.lt;injection e;omega)
   have HBA:=hide (hBa.kept go (by simp))
   clear hmo hmw go
   go_wp2_with fail
   refine hK9.out _ _ (uh HGO) (fun _ => ?_)
   clear hK9 K9
   (try simp only[pq])
   refine rdq 8 (some 15) (.call { callee := .value (.func 64),args := #[(.tmp 13),(.tmp 14)],argTypes := #[69,34] }) (fun K9 hK9 => ?_)
   go_simp
   go_at_call 64
   refine (uh HWT _ [m2,w.heap.size] (uh HGO) (fun x hx=>by have h7:=uh HMW;have h8:=(uh HMO).lt;have h9:=(uh HBA).lt;have h10:=uh HPA;simp only[List.mem_cons,List.not_mem_nil,or_false] at hx;rcases hx with rfl | rfl <;> omega)).mono ?_
   rintro e wt ⟨A,lo,lc,rfl,hca,haa,gt⟩
   have HGT:=hide (tn (uh HGO) gt)
   have HMT:=hide ((uh HMO).kept gt (by simp))
   obtain ⟨HCA,HAA⟩:=zh2 hca haa
   have HBC:=hide ((uh HBA).kept gt (by simp))
   clear hca haa gt
   go_wp2_with fail
   refine hK9.out _ _ (uh HGT) (fun _ => ?_)
   clear hK9 K9
   (try simp only[pq])
   refine rdq 10 none (.store 69 (.tmp 5) (.tmp 10)) (fun K9 hK9 => ?_)
   rw[if_pos (by rfl)]
   refine wp_store_row _ _ _ rfl (w.heap.size) (hfC f2 e2 f2 (g+1) 0 m2).toArray rfl rfl _ _ (uh HBC) (by simp[hfC,zau]) (by simp[hfC,uh HYL]) (all_oneCell_toArray (zcf _ _ _ _ _ _)) ?_
   refine hK9.out _ _ (zaj (uh HGT) _ (Or.inl (uh HPA))) (fun _ => ?_)
   clear hK9 K9
   (try simp only[Act.put])
   refine tq 11 6 (.assign (.tmp 15)) ((.slice lo A.length lc)) (zaj (uh HGT) _ (Or.inl (uh HPA))) ?_
   (try simp only[pq])
   refine wpAnyH_done (by kernel_rfl) ?_ _
   refine NoPanic.normal ?_
   have HFB:=hide ((uh HBC).row (hfC f2 e2 f2 (g+1) 0 m2))
   have HFM:=hide ((uh HMT).kept (zaj (zac _ (some (w.heap.size))) (hfC f2 e2 f2 (g+1) 0 m2).toArray (Or.inr rfl)) (uh HNE))
   have HFC:=hide (((uh HCA).fr (Fr.of (zaj (zac _ (some (w.heap.size))) (hfC f2 e2 f2 (g+1) 0 m2).toArray (Or.inr rfl)) (fun x e=>by cases e;exact Or.inl (List.mem_singleton.2 rfl))) (fun x hx=>by simp at hx;simp[hx])).sub (H:=m2::s::F) (fun x hx=>by simp only[List.mem_cons,List.mem_append] at hx ⊢;rcases hx with rfl | hx <;> first | exact Or.inl (Or.inl rfl) | exact Or.inr hx))
   have HFG:=hide (zaj (uh HGT) (hfC f2 e2 f2 (g+1) 0 m2).toArray (Or.inl (uh HPA)))
   go_wp2
   go_meet
   case rel=>exact ⟨_,m2,A,lo,lc,rfl,rfl,uh HPA,uh HFB,uh HFM,uh HMW,uh HFC,uh HAA,uh HFG⟩
 case rest =>
  obtain ⟨q,m2,A,lo,lc,rfl,rfl,hq,hBq,hM2,hmw,hca,haa,gx⟩:=hcut
  obtain ⟨nA,hnA⟩:∃ n,n=A.length:=⟨_,rfl⟩
  have hAl:A.length≤1000000:=by have h1:=uh HAC;rw[← haa,List.length_map] at h1;omega
  have cm:=zf9 wc lo lc A hca.is hAl
  have hnn:=uh HNN
  have hhr:∀ V,wc.grownBy V none→MayC AL→Calls Tryz.prog 38 #[.pointer (some ⟨q,0,none⟩),.slice lo nA lc] V fun r w'=>r = .returned (.bool (decide (zbc AL≤n)))∧V.grownBy w' none:=fun V gV hm=>by
   have hb':=hBq.kept gV (by simp)
   have:=zgl V q 0 e2 f2 (by rw[hb'.cell];rfl) (by rw[hb'.cell];rfl) (by omega) (by omega) lo lc A (hca.is.kept gV) (by rw[haa];exact hm)
   rw[haa,← hnA,show e2 - f2=n by omega] at this
   exact this
  rw[haa,← hnA] at cm
  rw[← hnA]
  have HHR0:=hide hhr
  have hCG:=(tn gx (zac wc none)).cell (uh HCG) (by simp)
  obtain ⟨HCG,HGX,HBQ,HM2,HMW,HCA⟩:=zh6 hCG gx hBq hM2 hmw hca
  obtain ⟨HAA,HNA⟩:=zh2 haa hnA
  clear hhr hCG hq hBq hM2 hmw hca haa gx hnA hAl hnn
  by_cases hmay:MayC AL
  ·rw[(za5 AL).2 hmay] at cm
   have hhr2:=fun V gV=>uh HHR0 V gV hmay
   by_cases hroom:zbc AL≤n
   ·rw[decide_eq_true hroom] at hhr2
    obtain ⟨HHR,HMAY,HROOM⟩:=zh3 hhr2 hmay hroom
    clear hhr2 hmay hroom HHR0
    have hgne:((g:Int) == 18446744073709551615)=false:=beq_eq_false_iff_ne.2 (by have:=uh HGB;omega)
    go_upto_region 2 with fail
    refine zai fun O hO => ?_
    refine zab (by rw[hO];kernel_rfl) (.slice lo nA lc) (fun K9 hK9=>by go_simp;exact hK9) ?_
    (try simp only[pq])
    refine zat (by rw[hO];kernel_rfl) fun K9 hK9 => ?_
    go_simp
    go_at_call 37
    refine (cm).mono ?_
    rintro e wm ⟨rfl,gm⟩
    have HGM:=hide gm
    clear cm gm
    refine hK9 _ _ ?_
    clear hK9 K9
    (try simp only[pq])
    refine zab (by rw[hO];kernel_rfl) (.bool false) (fun K9 hK9=>by go_simp;exact hK9) ?_
    (try simp only[pq])
    refine zab (by rw[hO];kernel_rfl) (.bool false) (fun K9 hK9=>by go_simp;exact hK9) ?_
    (try simp only[pq])
    refine zab (by rw[hO];kernel_rfl) (.slice lo nA lc) (fun K9 hK9=>by go_simp;exact hK9) ?_
    (try simp only[pq])
    refine zat (by rw[hO];kernel_rfl) fun K9 hK9 => ?_
    go_simp
    go_at_call 38
    refine (uh HHR _ (uh HGM)).mono ?_
    rintro e wh ⟨rfl,gh⟩
    have HGH:=hide (tn (uh HGM) gh)
    clear gh
    refine hK9 _ _ ?_
    clear hK9 K9
    (try simp only[pq])
    refine zab (by rw[hO];kernel_rfl) (.bool false) (fun K9 hK9=>by go_simp;exact hK9) ?_
    (try simp only[pq])
    refine zab (by rw[hO];kernel_rfl) (.bool false) (fun K9 hK9=>by go_simp;exact hK9) ?_
    (try simp only[pq])
    refine zab (by rw[hO];kernel_rfl) (.bool false) (fun K9 hK9=>by go_simp;exact hK9) ?_
    (try simp only[pq])
    refine zab (by rw[hO];kernel_rfl) (.pointer (some ⟨s,0,none⟩)) (fun K9 hK9=>by go_simp;exact hK9) ?_
    (try simp only[pq])
    refine zab (by rw[hO];kernel_rfl) (.pointer (some ⟨s,0,none⟩)) (fun K9 hK9=>by go_simp;exact hK9) ?_
    (try simp only[pq])
    refine zab (by rw[hO];kernel_rfl) (.pointer (some ⟨s,1,none⟩)) (fun K9 hK9=>by go_simp;exact hK9) ?_
    (try simp only[pq])
    refine zab (by rw[hO];kernel_rfl) (.pointer (some ⟨s,4,none⟩)) (fun K9 hK9=>by go_simp;exact hK9) ?_
    (try simp only[pq])
    have hcg:=(uh HGH).cell (uh HCG) (by simp)
    refine zab (by rw[hO];kernel_rfl) (.int .u64 (g:Int)) (fun K9 hK9=>by go_simp;exact hK9) ?_
    (try simp only[pq])
    refine zab (by rw[hO];kernel_rfl) (.bool false) (fun K9 hK9=>by go_simp;exact hK9) ?_
    (try simp only[pq])
    refine zab (by rw[hO];kernel_rfl) (.bool false) (fun K9 hK9=>by go_simp;exact hK9) ?_
    (try simp only[pq])
    have hnn:=uh HNN
    have hg9:=uh HGH
    have hgw:=tn (uh HGX) hg9
    have hd9:=(uh HD).nn hgw
    have hbq9:=(uh HBQ).kept hg9 (by simp)
    have hrow:=zan hbq9
    have hm2l:=(uh HM2).lt
    have hmF:m2∉F:=fun hx=>by have:=((uh HD).lo m2 hx).2;have:=uh HMW;omega
    have cw:=ze6 hd9 (by simp) ((uh HTB).kept0 hgw) s f e p g r m st ((uh HBS).kept hgw (by simp)) (uh HSF) (uh HUS) f2 e2 f2 (g+1) 0 m2 [] (VmW.new ((uh HM2).kept hg9 (by simp)) _) hmF (Nat.le_trans (uh HD).gb.size (uh HMW)) lo lc A ((uh HCA).nn hg9) (by rw[uh HAA];exact uh HMAY) (by rw[uh HAA];have:=uh HROOM;show f2+_≤S.length;omega) (by decide)
    rw[uh HAA,zh9 (uh HWD) (by have:=uh HROOM;omega),← uh HNA] at cw
    obtain ⟨H1,hH1⟩:∃ H,H=hfC f2 e2 f2 (g+1) 0 m2:=⟨_,rfl⟩
    rw[← hH1] at cw hrow
    have HHL:=hide (show (Tryz.prog.info? 69).map (·.size)=some H1.length by rw[hH1];simp[hfC,zau])
    obtain ⟨HMF,HGW⟩:=zh2 hmF hgw
    have HM2L:=hide (show m2<wh.heap.size from Nat.lt_of_lt_of_le hm2l hg9.size)
    have HHH:=hide hH1
    clear hnn hg9 hgw hd9 hbq9 hm2l hmF hH1 hgne
    go_wp2_with (first
     | (refine wpList_load_mid rfl 69 _ rfl q 0 rfl H1 _ hrow Tryz.underlying69 rfl (uh HHL) ?_;clear hrow)
     | (go_at_call 31;fail))
    refine cw.mono ?_
    rintro x w5 ⟨rfl,F',hd5,hF5,fr5,hend⟩
    obtain ⟨hb5,hv5⟩:=hend (by simp)
    obtain ⟨HD5,HF5,HFR,HB5,HV5⟩:=zh5 hd5 hF5 fr5 hb5 hv5
    clear cw hd5 hF5 fr5 hb5 hv5 hend
    go_wp2
    go_ret
    have hgs:=(uh HGW).size
    refine Or.inr ⟨⟨uh HMAY,uh HROOM⟩,rfl,F',m2,uh HD5,fun y hy=>(uh HF5 y hy).imp id (fun e=>Nat.le_trans hgs e),((Fr.none (uh HGW) (s::F)).trans (uh HFR) (fun x hx => ?_)),uh HB5,?_,uh HMW,fun hx => ?_⟩
    ·simp only[List.mem_cons] at hx ⊢
     rcases hx with rfl | hx
     ·exact Or.inr (uh HMW)
     ·exact Or.inl hx
    ·have:=uh HV5
     rw[uh HALL] at this
     exact this
    ·rcases uh HF5 m2 hx with h1 | h1
     ·exact uh HMF h1
     ·have:=uh HM2L;omega
   ·rw[decide_eq_false hroom] at hhr2
    obtain ⟨HHR,HROOM⟩:=zh2 hhr2 hroom
    clear hhr2 hmay hroom HHR0
    go_upto_region 2 with fail
    refine zai fun O hO => ?_
    refine zab (by rw[hO];kernel_rfl) (.slice lo nA lc) (fun K9 hK9=>by go_simp;exact hK9) ?_
    (try simp only[pq])
    refine zat (by rw[hO];kernel_rfl) fun K9 hK9 => ?_
    go_simp
    go_at_call 37
    refine (cm).mono ?_
    rintro e wm ⟨rfl,gm⟩
    have HGM:=hide gm
    clear cm gm
    refine hK9 _ _ ?_
    clear hK9 K9
    (try simp only[pq])
    refine zab (by rw[hO];kernel_rfl) (.bool false) (fun K9 hK9=>by go_simp;exact hK9) ?_
    (try simp only[pq])
    refine zab (by rw[hO];kernel_rfl) (.bool false) (fun K9 hK9=>by go_simp;exact hK9) ?_
    (try simp only[pq])
    refine zab (by rw[hO];kernel_rfl) (.slice lo nA lc) (fun K9 hK9=>by go_simp;exact hK9) ?_
    (try simp only[pq])
    refine zat (by rw[hO];kernel_rfl) fun K9 hK9 => ?_
    go_simp
    go_at_call 38
    refine (uh HHR _ (uh HGM)).mono ?_
    rintro e wh ⟨rfl,gh⟩
    have HGH:=hide (tn (uh HGM) gh)
    clear gh
    refine hK9 _ _ ?_
    clear hK9 K9
    (try simp only[pq])
    refine zab (by rw[hO];kernel_rfl) (.bool true) (fun K9 hK9=>by go_simp;exact hK9) ?_
    (try simp only[pq])
    refine zab (by rw[hO];kernel_rfl) (.bool true) (fun K9 hK9=>by go_simp;exact hK9) ?_
    (try simp only[pq])
    refine zab (by rw[hO];kernel_rfl) (.bool true) (fun K9 hK9=>by go_simp;exact hK9) ?_
    (try simp only[pq])
    refine zad (by rw[hO];kernel_rfl) ?_
    (try simp only[pq])
    refine zad (by rw[hO];kernel_rfl) ?_
    (try simp only[pq])
    refine zad (by rw[hO];kernel_rfl) ?_
    (try simp only[pq])
    refine zad (by rw[hO];kernel_rfl) ?_
    (try simp only[pq])
    refine zad (by rw[hO];kernel_rfl) ?_
    (try simp only[pq])
    refine zad (by rw[hO];kernel_rfl) ?_
    (try simp only[pq])
    refine zab (by rw[hO];kernel_rfl) (.bool true) (fun K9 hK9=>by go_simp;exact hK9) ?_
    (try simp only[pq])
    go_wp2
    go_ret
    exact Or.inl ⟨fun e=>uh HROOM e.2,rfl,tn (uh HGX) (uh HGH)⟩
  ·have hmf:mayB AL=false:=by
    cases hq:mayB AL with
    | false=>rfl
    | true=>exact absurd ((za5 AL).1 hq) hmay
   rw[hmf] at cm
   have HMAY:=hide hmay
   clear hmay HHR0 hmf
   go_upto_region 2 with fail
   refine zai fun O hO => ?_
   refine zab (by rw[hO];kernel_rfl) (.slice lo nA lc) (fun K9 hK9=>by go_simp;exact hK9) ?_
   (try simp only[pq])
   refine zat (by rw[hO];kernel_rfl) fun K9 hK9 => ?_
   go_simp
   go_at_call 37
   refine (cm).mono ?_
   rintro e wm ⟨rfl,gm⟩
   have HGM:=hide gm
   clear cm gm
   refine hK9 _ _ ?_
   clear hK9 K9
   (try simp only[pq])
   refine zab (by rw[hO];kernel_rfl) (.bool true) (fun K9 hK9=>by go_simp;exact hK9) ?_
   (try simp only[pq])
   refine zab (by rw[hO];kernel_rfl) (.bool true) (fun K9 hK9=>by go_simp;exact hK9) ?_
   (try simp only[pq])
   refine zad (by rw[hO];kernel_rfl) ?_
   (try simp only[pq])
   refine zad (by rw[hO];kernel_rfl) ?_
   (try simp only[pq])
   refine zad (by rw[hO];kernel_rfl) ?_
   (try simp only[pq])
   refine zab (by rw[hO];kernel_rfl) (.bool true) (fun K9 hK9=>by go_simp;exact hK9) ?_
   (try simp only[pq])
   refine zab (by rw[hO];kernel_rfl) (.bool true) (fun K9 hK9=>by go_simp;exact hK9) ?_
   (try simp only[pq])
   refine zad (by rw[hO];kernel_rfl) ?_
   (try simp only[pq])
   refine zad (by rw[hO];kernel_rfl) ?_
   (try simp only[pq])
   refine zad (by rw[hO];kernel_rfl) ?_
   (try simp only[pq])
   refine zad (by rw[hO];kernel_rfl) ?_
   (try simp only[pq])
   refine zad (by rw[hO];kernel_rfl) ?_
   (try simp only[pq])
   refine zad (by rw[hO];kernel_rfl) ?_
   (try simp only[pq])
   refine zab (by rw[hO];kernel_rfl) (.bool true) (fun K9 hK9=>by go_simp;exact hK9) ?_
   (try simp only[pq])
   go_wp2
   go_ret
   exact Or.inl ⟨fun e=>uh HMAY e.1,rfl,tn (uh HGX) (uh HGM)⟩
end Go.Proofs.YtoilcpdhhlcidaaGreatDoor
