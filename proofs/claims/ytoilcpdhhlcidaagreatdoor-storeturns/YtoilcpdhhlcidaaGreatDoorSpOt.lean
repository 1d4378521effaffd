/- Lemmas. -/
import Derived.Test.YtoilcpdhhlcidaaGreatDoorSpRh
namespace Go.Proofs.YtoilcpdhhlcidaaGreatDoor
open Go.RowKit
theorem Blk.not_map {w:World} {b m:Nat} {t:TypeId} {cs:List Value} (h:Blk w b t cs) {K:List (List UInt8 × Value)} (hM:SmapAt w m K):m≠b:=fun e=>by
 have h1:w.heap[b]? = _:=h
 obtain ⟨A,k,h2,_⟩:=hM.clone
 rw[e,h1] at h2
 cases h2
set_option maxRecDepth 100000 in
set_option maxHeartbeats 4000000 in
theorem zm3 (w:World) (b o f e n g:Nat) (h0:w.cell? ⟨b,o,none⟩=some (.int .i64 (f:Int))) (h1:w.cell? ⟨b,o+1,none⟩=some (.int .i64 (e:Int))) (h3:w.cell? ⟨b,o+3,none⟩=some (.int .u64 (g:Int))) (he:e=f+n) (hf:f≤n) (hn:n<1000000) (hg:g+1<18446744073709551616) :
  Calls Tryz.prog 63 #[.pointer (some ⟨b,o,none⟩)] w fun r w'=>∃ m,r = .returned (.agg (hfC (n - f) (n - f+n) (n - f) (g+1) 0 m).toArray)∧SmapAt w' m []∧w.heap.size≤m∧w.grownBy w' none:=by
 obtain ⟨Y,hY⟩:∃ Y:List Value,Y=[.int .i64 0,.int .i64 0,.int .i64 0,.int .u64 0,.int .u64 0,.map none]:=⟨_,rfl⟩
 have hzv:=zcw
 rw[show (#[.int .i64 0,.int .i64 0,.int .i64 0,.int .u64 0,.int .u64 0,.map none]:Array Value)=Y.toArray by rw[hY]] at hzv
 have HYL:=hide (show Y.length=6 by rw[hY];rfl)
 obtain ⟨W1,hW1,hB1,g1⟩:=zak w 69 Y
 obtain ⟨f2,hf2⟩:∃ x,x=n - f:=⟨_,rfl⟩
 obtain ⟨n2,hn2⟩:∃ x,x=2*n:=⟨_,rfl⟩
 obtain ⟨e2,he2⟩:∃ x,x=n - f+n:=⟨_,rfl⟩
 rw[← he2,← hf2]
 obtain ⟨W2,hW2⟩:∃ W,W=W1.drew:=⟨_,rfl⟩
 have g2:w.grownBy W2 none:=by rw[hW2];exact zac g1
 have HN:=hide (show IntKind.i64.wrap ((e:Int) - (f:Int))=(n:Int) by rw[IntKind.wrap_i64];omega)
 have HF2:=hide (show IntKind.i64.wrap ((n:Int) - (f:Int))=(f2:Int) by rw[IntKind.wrap_i64];omega)
 have HN2:=hide (show IntKind.i64.wrap (2*(n:Int))=(n2:Int) by rw[IntKind.wrap_i64];omega)
 have HE2:=hide (show IntKind.i64.wrap ((n2:Int) - (f:Int))=(e2:Int) by rw[IntKind.wrap_i64];omega)
 have hgw:IntKind.u64.wrap ((g:Int)+1)=(g:Int)+1:=by rw[IntKind.wrap_u64];omega
 have hc0:=g1.cell h0 (by simp)
 have hc1:=g1.cell h1 (by simp)
 have hc3:=g2.cell h3 (by simp)
 obtain ⟨HW1,HW2,HG2,HC0,HC1,HC3⟩:=zh6 hW1 hW2 g2 hc0 hc1 hc3
 have HB2:=hide (show Blk W2 w.heap.size 69 Y by rw[hW2];exact hB1.kept (zac (zab _ none)) (by simp))
 clear hY hW1 hB1 g1 hf2 hn2 he2 hW2 g2 h0 h1 h3 he hf hn hg hc0 hc1 hc3
 go_enter Tryz.func63,Tryz.ntmps63
 go_upto_region 1 with (rw[← uh HW1])
 refine wp_region_noPanic ?_
 refine wp_region_held_drew (S:=fun V=>W1.grownBy V none) (by kernel_rfl) (zac (zab W1 none)) (fun _ => ?_)
 refine tq 0 5 (.move (.tmp 0)) ((.pointer (some ⟨b,o,none⟩))) (zac (zab W1 none)) ?_
 refine tq 1 6 (.nilCheck (.tmp 5)) ((.pointer (some ⟨b,o,none⟩))) (zac (zab W1 none)) ?_
 refine tq 2 7 (.fieldAddr 69 (.tmp 6) 1) ((.pointer (some ⟨b,o+1,none⟩))) (zac (zab W1 none)) ?_
 refine tz 3 8 (.load 3 (.tmp 7)) ((.int .i64 (e:Int))) (zac (zab W1 none)) ?_ (y:=(Or.inl ⟨by rfl,fun V hV=>by (have hv1:=hV.cell (uh HC1) (by simp);go_simp)⟩))
 (try simp only[pq])
 refine tq 4 9 (.move (.tmp 0)) ((.pointer (some ⟨b,o,none⟩))) (zac (zab W1 none)) ?_
 refine tq 5 10 (.nilCheck (.tmp 9)) ((.pointer (some ⟨b,o,none⟩))) (zac (zab W1 none)) ?_
 refine tq 6 11 (.fieldAddr 69 (.tmp 10) 0) ((.pointer (some ⟨b,o,none⟩))) (zac (zab W1 none)) ?_
 refine tz 7 12 (.load 3 (.tmp 11)) ((.int .i64 (f:Int))) (zac (zab W1 none)) ?_ (y:=(Or.inl ⟨by rfl,fun V hV=>by (have hv1:=hV.cell (uh HC0) (by simp);go_simp)⟩))
 (try simp only[pq])
 refine tz 8 13 (.binOp .sub 3 (.tmp 8) (.tmp 12) 3) ((.int .i64 (n:Int))) (zac (zab W1 none)) ?_ (y:=(Or.inl ⟨by rfl,fun V hV=>by (have hv0:=uh HN;go_simp)⟩))
 refine tq 9 3 (.assign (.tmp 13)) ((.int .i64 (n:Int))) (zac (zab W1 none)) ?_
 (try simp only[pq])
 refine wpAnyH_done (by kernel_rfl) ?_ _
 refine NoPanic.normal ?_
 rw[← uh HW2]
 have HC0:=hide (show W2.cell? ⟨b,o,none⟩=some (.int .i64 (f:Int)) by rw[uh HW2];exact uh HC0)
 go_upto_region 2 with fail
 go_cut [4] (fun x9 wx=>∃ q m:Nat,x9 = .pointer (some ⟨q,0,none⟩)∧W2.heap.size≤q∧Blk wx q 69 (hfC f2 e2 f2 0 0 m)∧SmapAt wx m []∧w.heap.size≤m∧W2.grownBy wx none)
 case first =>
  have h0:W2.grownBy W2.drew none:=zac (zab W2 none)
  refine wp_region_noPanic ?_
  refine wp_region_held_drew (S:=fun V=>W2.grownBy V none) (by kernel_rfl) h0 (fun _ => ?_)
  refine tq 0 14 (.move (.tmp 3)) ((.int .i64 (n:Int))) h0 ?_
  refine tq 1 15 (.move (.tmp 0)) ((.pointer (some ⟨b,o,none⟩))) h0 ?_
  refine tq 2 16 (.nilCheck (.tmp 15)) ((.pointer (some ⟨b,o,none⟩))) h0 ?_
  refine tq 3 17 (.fieldAddr 69 (.tmp 16) 0) ((.pointer (some ⟨b,o,none⟩))) h0 ?_
  (try simp only[pq])
  refine tz 4 18 (.load 3 (.tmp 17)) ((.int .i64 (f:Int))) h0 ?_ (y:=(Or.inl ⟨by rfl,fun V hV=>by (have hv1:=hV.cell (uh HC0) (by simp);go_simp)⟩))
  refine tz 5 19 (.binOp .sub 3 (.tmp 14) (.tmp 18) 3) ((.int .i64 (f2:Int))) h0 ?_ (y:=(Or.inl ⟨by rfl,fun V hV=>by (have hv0:=uh HF2;go_simp)⟩))
  refine tq 6 20 (.move (.tmp 3)) ((.int .i64 (n:Int))) h0 ?_
  refine tz 7 21 (.binOp .mul 3 (.const (.int .i64 2)) (.tmp 20) 3) ((.int .i64 (n2:Int))) h0 ?_ (y:=(Or.inl ⟨by rfl,fun V hV=>by (have hv0:=uh HN2;go_simp)⟩))
  (try simp only[pq])
  refine tq 8 22 (.move (.tmp 0)) ((.pointer (some ⟨b,o,none⟩))) h0 ?_
  refine tq 9 23 (.nilCheck (.tmp 22)) ((.pointer (some ⟨b,o,none⟩))) h0 ?_
  refine tq 10 24 (.fieldAddr 69 (.tmp 23) 0) ((.pointer (some ⟨b,o,none⟩))) h0 ?_
  refine tz 11 25 (.load 3 (.tmp 24)) ((.int .i64 (f:Int))) h0 ?_ (y:=(Or.inl ⟨by rfl,fun V hV=>by (have hv1:=hV.cell (uh HC0) (by simp);go_simp)⟩))
  (try simp only[pq])
  refine tz 12 26 (.binOp .sub 3 (.tmp 21) (.tmp 25) 3) ((.int .i64 (e2:Int))) h0 ?_ (y:=(Or.inl ⟨by rfl,fun V hV=>by (have hv0:=uh HE2;go_simp)⟩))
  (try simp only[pq])
  refine wpAnyH_ready (rs:=[13,14]) (by kernel_rfl) (by simp) ?_
  refine AllReadyH.cons (o:=⟨some 27,.call { callee := .value (.func 53),args := #[(.tmp 19),(.tmp 26)],argTypes := #[3,3] },_,_,_,_⟩) rfl (fun K9 hK9 => ?_) (AllReadyH.cons (o:=⟨some 4,.alloc 69,_,_,_,_⟩) rfl (fun K9 hK9 => ?_) AllReadyH.nil)
  ·go_simp
   go_at_call 53
   refine (zdi _ f2 e2).mono ?_
   rintro r9 wc ⟨rfl,hm9,gc⟩
   obtain ⟨m9,hme⟩:∃ m,m=W2.drew.heap.size+1:=⟨_,rfl⟩
   rw[← hme] at hm9 ⊢
   have HGC:=hide (tn h0 gc)
   have HMM:=hide hm9
   have HMW:=hide (show w.heap.size≤m9 by have:=(uh HG2).size;have:=(h0).size;omega)
   clear gc hm9 hme
   go_wp2_with fail
   refine hK9.out _ _ (uh HGC) (fun _ => ?_)
   clear hK9 K9
   (try simp only[pq])
   refine rdq 14 (some 4) (.alloc 69) (fun K9 hK9 => ?_)
   go_simp
   refine hK9.out _ _ (zad (uh HGC) _) (fun _ => ?_)
   clear hK9 K9
   (try simp only[pq])
   obtain ⟨Wa,hWa,hBa,gA⟩:=zak wc 69 Y
   rw[← show Wa=wc.alloc (.cells Y.toArray 69) from hWa]
   have HPA:=hide (show W2.heap.size≤wc.heap.size from (uh HGC).size)
   have HNE:=hide (show some m9≠some wc.heap.size from fun e=>by have:=(uh HMM).lt;injection e;omega)
   have HMA:=hide ((uh HMM).kept gA (by simp))
   clear hWa
   refine rdq 15 none (.store 69 (.tmp 4) (.tmp 27)) (fun K9 hK9 => ?_)
   rw[if_pos (by rfl)]
   refine wp_store_row _ _ _ rfl (wc.heap.size) (hfC f2 e2 f2 0 0 m9).toArray rfl rfl _ _ hBa (by simp[hfC,zap]) (by simp[hfC,uh HYL]) (all_oneCell_toArray (zbw _ _ _ _ _ _)) ?_
   refine hK9.out _ _ (zah (tn (uh HGC) gA) _ (Or.inl (uh HPA))) (fun _ => ?_)
   clear hK9 K9
   (try simp only[Act.put])
   refine wpAnyH_done (by kernel_rfl) ?_ _
   refine NoPanic.normal ?_
   have HFB:=hide ((hBa).row (hfC f2 e2 f2 0 0 m9))
   have HFM:=hide ((uh HMA).kept (zah (zab _ (some wc.heap.size)) (hfC f2 e2 f2 0 0 m9).toArray (Or.inr rfl)) (uh HNE))
   have HFG:=hide (zah (tn (uh HGC) gA) (hfC f2 e2 f2 0 0 m9).toArray (Or.inl (uh HPA)))
   go_wp2
   go_meet
   case rel=>exact ⟨_,m9,rfl,uh HPA,uh HFB,uh HFM,uh HMW,uh HFG⟩
  ·go_simp
   refine hK9.out _ _ (zad h0 _) (fun _ => ?_)
   clear hK9 K9
   (try simp only[pq])
   obtain ⟨Wb,hWb,hBb,gB⟩:=zak W2 69 Y
   rw[← show Wb=W2.alloc (.cells Y.toArray 69) from hWb]
   obtain ⟨Wa,hWa⟩:∃ W,W=Wb.drew:=⟨_,rfl⟩
   rw[← hWa]
   have hBa:Blk Wa W2.heap.size 69 Y:=by rw[hWa];exact hBb.kept (zac (zab Wb none)) (by simp)
   have gA:W2.grownBy Wa none:=by rw[hWa];exact zac gB
   have HPA:=hide (Nat.le_refl W2.heap.size)
   clear hWa hWb hBb gB
   refine rdq 13 (some 27) (.call { callee := .value (.func 53),args := #[(.tmp 19),(.tmp 26)],argTypes := #[3,3] }) (fun K9 hK9 => ?_)
   go_simp
   go_at_call 53
   refine (zdi _ f2 e2).mono ?_
   rintro r9 wc ⟨rfl,hm9,gc⟩
   obtain ⟨m9,hme⟩:∃ m,m=Wa.heap.size+1:=⟨_,rfl⟩
   rw[← hme] at hm9 ⊢
   have HGC:=hide (tn gA gc)
   have HMM:=hide hm9
   have HMW:=hide (show w.heap.size≤m9 by have:=(uh HG2).size;have:=(gA).size;omega)
   have HBA:=hide (hBa.kept gc (by simp))
   have HNE:=hide (show some m9≠some W2.heap.size from fun e=>by have:=gA.size;have:=hBa.lt;injection e;omega)
   clear gc hm9 hme hBa gA
   go_wp2_with fail
   refine hK9.out _ _ (uh HGC) (fun _ => ?_)
   clear hK9 K9
   (try simp only[pq])
   refine rdq 15 none (.store 69 (.tmp 4) (.tmp 27)) (fun K9 hK9 => ?_)
   rw[if_pos (by rfl)]
   refine wp_store_row _ _ _ rfl (W2.heap.size) (hfC f2 e2 f2 0 0 m9).toArray rfl rfl _ _ (uh HBA) (by simp[hfC,zap]) (by simp[hfC,uh HYL]) (all_oneCell_toArray (zbw _ _ _ _ _ _)) ?_
   refine hK9.out _ _ (zah (uh HGC) _ (Or.inl (uh HPA))) (fun _ => ?_)
   clear hK9 K9
   (try simp only[Act.put])
   refine wpAnyH_done (by kernel_rfl) ?_ _
   refine NoPanic.normal ?_
   have HFB:=hide (((uh HBA)).row (hfC f2 e2 f2 0 0 m9))
   have HFM:=hide ((uh HMM).kept (zah (zab _ (some W2.heap.size)) (hfC f2 e2 f2 0 0 m9).toArray (Or.inr rfl)) (uh HNE))
   have HFG:=hide (zah (uh HGC) (hfC f2 e2 f2 0 0 m9).toArray (Or.inl (uh HPA)))
   go_wp2
   go_meet
   case rel=>exact ⟨_,m9,rfl,uh HPA,uh HFB,uh HFM,uh HMW,uh HFG⟩
 case rest =>
  obtain ⟨q,m,rfl,hq,hBq,hM,hmw,gx⟩:=hcut
  have hc9:=gx.cell (uh HC3) (by simp)
  have hz9:wc.cell? ⟨q,3,none⟩=some (.int .u64 0):=by rw[hBq.cell 3];rfl
  have hf9:=hBq.fz 3
  obtain ⟨W4,hW4⟩:∃ W,W=wc.setCell ⟨q,3,none⟩ (.int .u64 ((g:Int)+1)):=⟨_,rfl⟩
  have hB4:Blk W4 q 69 (hfC f2 e2 f2 (g+1) 0 m):=by rw[hW4];exact hBq.set 3 _
  have gq:wc.grownBy W4 (some q):=by rw[hW4];exact zag (zab _ _) _ _ (Or.inr rfl)
  have hmq:m≠q:=hBq.not_map hM
  have hM4:=hM.kept gq (by intro e;injection e with e;exact hmq e)
  have g4:W2.grownBy W4 none:=zaf gx gq (fun y e=>by cases e;exact Or.inl hq)
  have hB5:=(uh HB2).kept g4 (by simp)
  have hr4:=zan hB4
  obtain ⟨H,hH⟩:∃ H,H=hfC f2 e2 f2 (g+1) 0 m:=⟨_,rfl⟩
  rw[← hH] at hr4
  have HHE:=hide hH
  have HHI:=hide (show (Tryz.prog.info? 69).map (·.size)=some H.toArray.size by rw[hH];simp[hfC,zap])
  have HHL:=hide (show (Tryz.prog.info? 69).map (·.size)=some H.length by rw[hH];simp[hfC,zap])
  have HHY:=hide (show Y.toArray.size=H.toArray.size by rw[hH];simp[hfC,uh HYL])
  have HHO:=hide (show H.toArray.all (·.oneCell')=true by rw[hH];exact all_oneCell_toArray (zbw _ _ _ _ _ _))
  obtain ⟨HW4,HB5⟩:=zh2 hW4 hB5
  have HM5:=hide (hM4.kept (zah (zab W4 (some w.heap.size)) H.toArray (Or.inr rfl)) (by intro e;injection e with e;have:=hB5.not_map hM4;exact this e))
  have HG5:=hide (zah (tn (uh HG2) g4) H.toArray (Or.inl (Nat.le_refl _)))
  have HMW:=hide hmw
  clear hq hBq hM hmw gx hW4 hB4 gq hmq hM4 g4 hB5 hH
  go_wp2_with (first
   | (rw[← uh HW4])
   | (refine wpList_load_mid rfl 69 _ rfl q 0 rfl H _ hr4 Tryz.underlying69 rfl (uh HHL) ?_;clear hr4)
   | (have hB9:=uh HB5;refine wpList_store_row rfl 69 _ _ rfl w.heap.size H.toArray rfl rfl _ _ hB9 (uh HHI) (uh HHY) (uh HHO) ?_;clear hB9))
  refine bodyPost_ret (results_cell_row rfl _ _ _ _ _ _ _ rfl ((uh HB5).row H) Tryz.underlying69 rfl (uh HHI)) rfl ?_
  exact ⟨m,by rw[uh HHE],uh HM5,uh HMW,uh HG5⟩
end Go.Proofs.YtoilcpdhhlcidaaGreatDoor
