/- Lemmas. -/
import Derived.Test.YtoilcpdhhlcidaaGreatDoorSpTk
import Derived.Deep.LoopGhost
namespace Go.Proofs.YtoilcpdhhlcidaaGreatDoor
open Go.RowKit
set_option maxRecDepth 100000
set_option maxHeartbeats 2000000 in
theorem zla (w:World) (b o e p:Nat) (h1:w.cell? ⟨b,o+1,none⟩=some (.int .i64 (e:Int))) (h2:w.cell? ⟨b,o+2,none⟩=some (.int .i64 (p:Int))) (hp:p≤e) (he:e<9223372036854775808) :
  Calls Tryz.prog 40 #[.pointer (some ⟨b,o,none⟩)] w fun r w'=>r = .returned (.int .i64 ((e - p:Nat):Int))∧w.grownBy w' none:=by
 obtain ⟨HC1,HC2⟩:=zh2 h1 h2
 have HP:=hide (show IntKind.i64.wrap ((e:Int) - (p:Int))=((e - p:Nat):Int) by rw[IntKind.wrap_i64];omega)
 clear h1 h2 hp he
 go_enter Tryz.func40,Tryz.ntmps40
 go_upto_region 1 with fail
 refine wp_region_noPanic ?_
 refine wp_region_held_drew (S:=fun V=>w.grownBy V none) (by kernel_rfl) (zaa (zac w none)) (fun _ => ?_)
 refine tq 0 3 (.move (.tmp 0)) ((.pointer (some ⟨b,o,none⟩))) (zaa (zac w none)) ?_
 refine tq 1 4 (.nilCheck (.tmp 3)) ((.pointer (some ⟨b,o,none⟩))) (zaa (zac w none)) ?_
 refine tq 2 5 (.fieldAddr 69 (.tmp 4) 1) ((.pointer (some ⟨b,o+1,none⟩))) (zaa (zac w none)) ?_
 refine tz 3 6 (.load 3 (.tmp 5)) ((.int .i64 (e:Int))) (zaa (zac w none)) ?_ (y:=(Or.inl ⟨by rfl,fun V hV=>by (have hv1:=hV.cell (uh HC1) (by simp);go_simp)⟩))
 (try simp only[pq])
 refine tq 4 7 (.move (.tmp 0)) ((.pointer (some ⟨b,o,none⟩))) (zaa (zac w none)) ?_
 refine tq 5 8 (.nilCheck (.tmp 7)) ((.pointer (some ⟨b,o,none⟩))) (zaa (zac w none)) ?_
 refine tq 6 9 (.fieldAddr 69 (.tmp 8) 2) ((.pointer (some ⟨b,o+2,none⟩))) (zaa (zac w none)) ?_
 refine tz 7 10 (.load 3 (.tmp 9)) ((.int .i64 (p:Int))) (zaa (zac w none)) ?_ (y:=(Or.inl ⟨by rfl,fun V hV=>by (have hv1:=hV.cell (uh HC2) (by simp);go_simp)⟩))
 (try simp only[pq])
 refine tz 8 11 (.binOp .sub 3 (.tmp 6) (.tmp 10) 3) ((.int .i64 ((e - p:Nat):Int))) (zaa (zac w none)) ?_ (y:=(Or.inl ⟨by rfl,fun V hV=>by (have hv0:=uh HP;go_simp)⟩))
 refine tq 9 2 (.assign (.tmp 11)) ((.int .i64 ((e - p:Nat):Int))) (zaa (zac w none)) ?_
 (try simp only[pq])
 refine wpAnyH_done (by kernel_rfl) ?_ _
 refine NoPanic.normal ?_
 go_wp2
 go_ret
 exact ⟨rfl,zaa (zac w none)⟩
set_option maxHeartbeats 2000000 in
theorem zgl (w:World) (b o e p:Nat) (h1:w.cell? ⟨b,o+1,none⟩=some (.int .i64 (e:Int))) (h2:w.cell? ⟨b,o+2,none⟩=some (.int .i64 (p:Int))) (hp:p≤e) (he:e<9223372036854775808) (ao:Option Addr) (ac:Nat) (L:List ChI) (hc:CsI w ao ac L) (hm:MayC (L.map ChI.chg)) :
  Calls Tryz.prog 38 #[.pointer (some ⟨b,o,none⟩),.slice ao L.length ac] w fun r w'=>r = .returned (.bool (decide (zbc (L.map ChI.chg)≤e - p)))∧w.grownBy w' none:=by
 have cl:=zg1 w ao ac L hc hm
 have hrl:=zcy hm
 obtain ⟨k,hk⟩:∃ k,k=zbc (L.map ChI.chg):=⟨_,rfl⟩
 rw[← hk]
 obtain ⟨n,hn⟩:∃ n,n=L.length:=⟨_,rfl⟩
 rw[← hn] at cl ⊢
 obtain ⟨z,hz⟩:∃ z,z=(recB (L.map ChI.chg)).length:=⟨_,rfl⟩
 rw[← hz] at cl hrl
 have cs:=fun V=>ze1 V z (by omega)
 have hk2:1+secN z=k:=by rw[hk,hz];rfl
 rw[hk2] at cs
 obtain ⟨lf,hlf⟩:∃ lf,lf=e - p:=⟨_,rfl⟩
 rw[← hlf]
 have HL:=hide (show ∀ V,w.grownBy V none→Calls Tryz.prog 40 #[.pointer (some ⟨b,o,none⟩)] V fun r w'=>r = .returned (.int .i64 (lf:Int))∧V.grownBy w' none from fun V gV=>by
  rw[hlf]
  exact zla V b o e p (gV.cell h1 (by simp)) (gV.cell h2 (by simp)) hp he)
 have hdec:decide ((k:Int)≤(lf:Int))=decide (k≤lf):=by simp
 clear h1 h2 hp he hc hm hk hn hz hrl hk2 hlf
 go_enter Tryz.func38,Tryz.ntmps38
 go_wp2_with (first
  | (go_at_call 62;refine cl.mono ?_;rintro r w1 ⟨rfl,g1⟩;have HG1:=hide g1;clear cl g1)
  | (go_at_call 61;refine (cs _).mono ?_;rintro r w2 ⟨rfl,hw2⟩;have hw3:=hw2.symm;clear hw2;subst hw3)
  | (go_at_call 40;refine (uh HL _ (uh HG1)).mono ?_;rintro r w3 ⟨rfl,g3⟩;have HG3:=hide (tn (uh HG1) g3);clear g3))
 go_ret
 exact ⟨by first | rfl | simp,uh HG3⟩
theorem Blk.not_map {w:World} {b m:Nat} {t:TypeId} {cs:List Value} (h:Blk w b t cs) {K:List (List UInt8 × Value)} (hM:SmapAt w m K):m≠b:=fun e=>by
 have h1:w.heap[b]? = _:=h
 obtain ⟨A,k,h2,_⟩:=hM.clone
 rw[e,h1] at h2
 cases h2
set_option maxHeartbeats 4000000 in
theorem zoo (w:World) (b o f e n g:Nat) (h0:w.cell? ⟨b,o,none⟩=some (.int .i64 (f:Int))) (h1:w.cell? ⟨b,o+1,none⟩=some (.int .i64 (e:Int))) (h3:w.cell? ⟨b,o+3,none⟩=some (.int .u64 (g:Int))) (he:e=f+n) (hf:f≤n) (hn:n<1000000) (hg:g+1<18446744073709551616) :
  Calls Tryz.prog 63 #[.pointer (some ⟨b,o,none⟩)] w fun r w'=>∃ m,r = .returned (.agg (hfC (n - f) (n - f+n) (n - f) (g+1) 0 m).toArray)∧SmapAt w' m []∧w.heap.size≤m∧w.grownBy w' none:=by
 obtain ⟨Y,hY⟩:∃ Y:List Value,Y=[.int .i64 0,.int .i64 0,.int .i64 0,.int .u64 0,.int .u64 0,.map none]:=⟨_,rfl⟩
 have hzv:=zdh
 rw[show (#[.int .i64 0,.int .i64 0,.int .i64 0,.int .u64 0,.int .u64 0,.map none]:Array Value)=Y.toArray by rw[hY]] at hzv
 have HYL:=hide (show Y.length=6 by rw[hY];rfl)
 obtain ⟨W1,hW1,hB1,g1⟩:=zah w 69 Y
 obtain ⟨f2,hf2⟩:∃ x,x=n - f:=⟨_,rfl⟩
 obtain ⟨n2,hn2⟩:∃ x,x=2*n:=⟨_,rfl⟩
 obtain ⟨e2,he2⟩:∃ x,x=n - f+n:=⟨_,rfl⟩
 rw[← he2,← hf2]
 obtain ⟨W2,hW2⟩:∃ W,W=W1.drew:=⟨_,rfl⟩
 have g2:w.grownBy W2 none:=by rw[hW2];exact zaa g1
 have HN:=hide (show IntKind.i64.wrap ((e:Int) - (f:Int))=(n:Int) by rw[IntKind.wrap_i64];omega)
 have HF2:=hide (show IntKind.i64.wrap ((n:Int) - (f:Int))=(f2:Int) by rw[IntKind.wrap_i64];omega)
 have HN2:=hide (show IntKind.i64.wrap (2*(n:Int))=(n2:Int) by rw[IntKind.wrap_i64];omega)
 have HE2:=hide (show IntKind.i64.wrap ((n2:Int) - (f:Int))=(e2:Int) by rw[IntKind.wrap_i64];omega)
 have hgw:IntKind.u64.wrap ((g:Int)+1)=(g:Int)+1:=by rw[IntKind.wrap_u64];omega
 have hc0:=g1.cell h0 (by simp)
 have hc1:=g1.cell h1 (by simp)
 have hc3:=g2.cell h3 (by simp)
 obtain ⟨HW1,HW2,HG2,HC0,HC1,HC3⟩:=zh6 hW1 hW2 g2 hc0 hc1 hc3
 have HB2:=hide (show Blk W2 w.heap.size 69 Y by rw[hW2];exact hB1.kept (zaa (zac _ none)) (by simp))
 clear hY hW1 hB1 g1 hf2 hn2 he2 hW2 g2 h0 h1 h3 he hf hn hg hc0 hc1 hc3
 go_enter Tryz.func63,Tryz.ntmps63
 go_upto_region 1 with (rw[← uh HW1])
 refine wp_region_noPanic ?_
 refine wp_region_held_drew (S:=fun V=>W1.grownBy V none) (by kernel_rfl) (zaa (zac W1 none)) (fun _ => ?_)
 refine tq 0 5 (.move (.tmp 0)) ((.pointer (some ⟨b,o,none⟩))) (zaa (zac W1 none)) ?_
 refine tq 1 6 (.nilCheck (.tmp 5)) ((.pointer (some ⟨b,o,none⟩))) (zaa (zac W1 none)) ?_
 refine tq 2 7 (.fieldAddr 69 (.tmp 6) 1) ((.pointer (some ⟨b,o+1,none⟩))) (zaa (zac W1 none)) ?_
 refine tz 3 8 (.load 3 (.tmp 7)) ((.int .i64 (e:Int))) (zaa (zac W1 none)) ?_ (y:=(Or.inl ⟨by rfl,fun V hV=>by (have hv1:=hV.cell (uh HC1) (by simp);go_simp)⟩))
 (try simp only[pq])
 refine tq 4 9 (.move (.tmp 0)) ((.pointer (some ⟨b,o,none⟩))) (zaa (zac W1 none)) ?_
 refine tq 5 10 (.nilCheck (.tmp 9)) ((.pointer (some ⟨b,o,none⟩))) (zaa (zac W1 none)) ?_
 refine tq 6 11 (.fieldAddr 69 (.tmp 10) 0) ((.pointer (some ⟨b,o,none⟩))) (zaa (zac W1 none)) ?_
 refine tz 7 12 (.load 3 (.tmp 11)) ((.int .i64 (f:Int))) (zaa (zac W1 none)) ?_ (y:=(Or.inl ⟨by rfl,fun V hV=>by (have hv1:=hV.cell (uh HC0) (by simp);go_simp)⟩))
 (try simp only[pq])
 refine tz 8 13 (.binOp .sub 3 (.tmp 8) (.tmp 12) 3) ((.int .i64 (n:Int))) (zaa (zac W1 none)) ?_ (y:=(Or.inl ⟨by rfl,fun V hV=>by (have hv0:=uh HN;go_simp)⟩))
 refine tq 9 3 (.assign (.tmp 13)) ((.int .i64 (n:Int))) (zaa (zac W1 none)) ?_
 (try simp only[pq])
 refine wpAnyH_done (by kernel_rfl) ?_ _
 refine NoPanic.normal ?_
 rw[← uh HW2]
 have HC0:=hide (show W2.cell? ⟨b,o,none⟩=some (.int .i64 (f:Int)) by rw[uh HW2];exact uh HC0)
 go_upto_region 2 with fail
 go_cut [4] (fun x9 wx=>∃ q m:Nat,x9 = .pointer (some ⟨q,0,none⟩)∧W2.heap.size≤q∧Blk wx q 69 (hfC f2 e2 f2 0 0 m)∧SmapAt wx m []∧w.heap.size≤m∧W2.grownBy wx none)
 case first =>
  have h0:W2.grownBy W2.drew none:=zaa (zac W2 none)
  refine wp_region_noPanic ?_
  refine wp_region_held_drew (S:=fun V=>W2.grownBy V none) (by kernel_rfl) h0 (fun _ => ?_)
  refine tq 0 14 (.move (.tmp 3)) ((.int .i64 (n:Int))) h0 ?_
  refine tq 1 15 (.move (.tmp 0)) ((.pointer (some ⟨b,o,none⟩))) h0 ?_
  refine tq 2 16 (.nilCheck (.tmp 15)) ((.pointer (some ⟨b,o,none⟩))) h0 ?_
  refine tq 3 17 (.fieldAddr 69 (.tmp 16) 0) ((.pointer (some ⟨b,o,none⟩))) h0 ?_
  (try simp only[pq])
  refine tz 4 18 (.load 3 (.tmp 17)) ((.int .i64 (f:Int))) h0 ?_ (y:=(Or.inl ⟨by rfl,fun V hV=>by (have hv1:=hV.cell (uh HC0) (by simp);go_simp)⟩))
  refine tz 5 19 (.binOp .sub 3 (.tmp 14) (.tmp 18) 3) ((.int .i64 (f2:Int))) h0 ?_ (y:=(Or.inl ⟨by rfl,fun V hV=>by (have hv0:=uh HF2;go_simp)⟩))
  refine tq 6 20 (.move (.tmp 3)) ((.int .i64 (n:Int))) h0 ?_
  refine tz 7 21 (.binOp .mul 3 (.const (.int .i64 2)) (.tmp 20) 3) ((.int .i64 (n2:Int))) h0 ?_ (y:=(Or.inl ⟨by rfl,fun V hV=>by (have hv0:=uh HN2;go_simp)⟩))
  (try simp only[pq])
  refine tq 8 22 (.move (.tmp 0)) ((.pointer (some ⟨b,o,none⟩))) h0 ?_
  refine tq 9 23 (.nilCheck (.tmp 22)) ((.pointer (some ⟨b,o,none⟩))) h0 ?_
  refine tq 10 24 (.fieldAddr 69 (.tmp 23) 0) ((.pointer (some ⟨b,o,none⟩))) h0 ?_
  refine tz 11 25 (.load 3 (.tmp 24)) ((.int .i64 (f:Int))) h0 ?_ (y:=(Or.inl ⟨by rfl,fun V hV=>by (have hv1:=hV.cell (uh HC0) (by simp);go_simp)⟩))
  (try simp only[pq])
  refine tz 12 26 (.binOp .sub 3 (.tmp 21) (.tmp 25) 3) ((.int .i64 (e2:Int))) h0 ?_ (y:=(Or.inl ⟨by rfl,fun V hV=>by (have hv0:=uh HE2;go_simp)⟩))
  (try simp only[pq])
  refine wpAnyH_ready (rs:=[13,14]) (by kernel_rfl) (by simp) ?_
  refine AllReadyH.cons (o:=⟨some 27,.call { callee := .value (.func 53),args := #[(.tmp 19),(.tmp 26)],argTypes := #[3,3] },_,_,_,_⟩) rfl (fun K9 hK9 => ?_) (AllReadyH.cons (o:=⟨some 4,.alloc 69,_,_,_,_⟩) rfl (fun K9 hK9 => ?_) AllReadyH.nil)
  ·go_simp
   go_at_call 53
   refine (zd3 _ f2 e2).mono ?_
   rintro r9 wc ⟨rfl,hm9,gc⟩
   obtain ⟨m9,hme⟩:∃ m,m=W2.drew.heap.size+1:=⟨_,rfl⟩
   rw[← hme] at hm9 ⊢
   have HGC:=hide (tn h0 gc)
   have HMM:=hide hm9
   have HMW:=hide (show w.heap.size≤m9 by have:=(uh HG2).size;have:=(h0).size;omega)
   clear gc hm9 hme
   go_wp2_with fail
   refine hK9.out _ _ (uh HGC) (fun _ => ?_)
   clear hK9 K9
   (try simp only[pq])
   refine rdq 14 (some 4) (.alloc 69) (fun K9 hK9 => ?_)
   go_simp
   refine hK9.out _ _ (zaf (uh HGC) _) (fun _ => ?_)
   clear hK9 K9
   (try simp only[pq])
   obtain ⟨Wa,hWa,hBa,gA⟩:=zah wc 69 Y
   rw[← show Wa=wc.alloc (.cells Y.toArray 69) from hWa]
   have HPA:=hide (show W2.heap.size≤wc.heap.size from (uh HGC).size)
   have HNE:=hide (show some m9≠some wc.heap.size from fun e=>by have:=(uh HMM).lt;injection e;omega)
   have HMA:=hide ((uh HMM).kept gA (by simp))
   clear hWa
   refine rdq 15 none (.store 69 (.tmp 4) (.tmp 27)) (fun K9 hK9 => ?_)
   rw[if_pos (by rfl)]
   refine wp_store_row _ _ _ rfl (wc.heap.size) (hfC f2 e2 f2 0 0 m9).toArray rfl rfl _ _ hBa (by simp[hfC,zau]) (by simp[hfC,uh HYL]) (all_oneCell_toArray (zcf _ _ _ _ _ _)) ?_
   refine hK9.out _ _ (zaj (tn (uh HGC) gA) _ (Or.inl (uh HPA))) (fun _ => ?_)
   clear hK9 K9
   (try simp only[Act.put])
   refine wpAnyH_done (by kernel_rfl) ?_ _
   refine NoPanic.normal ?_
   have HFB:=hide ((hBa).row (hfC f2 e2 f2 0 0 m9))
   have HFM:=hide ((uh HMA).kept (zaj (zac _ (some wc.heap.size)) (hfC f2 e2 f2 0 0 m9).toArray (Or.inr rfl)) (uh HNE))
   have HFG:=hide (zaj (tn (uh HGC) gA) (hfC f2 e2 f2 0 0 m9).toArray (Or.inl (uh HPA)))
   go_wp2
   go_meet
   case rel=>exact ⟨_,m9,rfl,uh HPA,uh HFB,uh HFM,uh HMW,uh HFG⟩
  ·go_simp
   refine hK9.out _ _ (zaf h0 _) (fun _ => ?_)
   clear hK9 K9
   (try simp only[pq])
   obtain ⟨Wb,hWb,hBb,gB⟩:=zah W2 69 Y
   rw[← show Wb=W2.alloc (.cells Y.toArray 69) from hWb]
   obtain ⟨Wa,hWa⟩:∃ W,W=Wb.drew:=⟨_,rfl⟩
   rw[← hWa]
   have hBa:Blk Wa W2.heap.size 69 Y:=by rw[hWa];exact hBb.kept (zaa (zac Wb none)) (by simp)
   have gA:W2.grownBy Wa none:=by rw[hWa];exact zaa gB
   have HPA:=hide (Nat.le_refl W2.heap.size)
   clear hWa hWb hBb gB
   refine rdq 13 (some 27) (.call { callee := .value (.func 53),args := #[(.tmp 19),(.tmp 26)],argTypes := #[3,3] }) (fun K9 hK9 => ?_)
   go_simp
   go_at_call 53
   refine (zd3 _ f2 e2).mono ?_
   rintro r9 wc ⟨rfl,hm9,gc⟩
   obtain ⟨m9,hme⟩:∃ m,m=Wa.heap.size+1:=⟨_,rfl⟩
   rw[← hme] at hm9 ⊢
   have HGC:=hide (tn gA gc)
   have HMM:=hide hm9
   have HMW:=hide (show w.heap.size≤m9 by have:=(uh HG2).size;have:=(gA).size;omega)
   have HBA:=hide (hBa.kept gc (by simp))
   have HNE:=hide (show some m9≠some W2.heap.size from fun e=>by have:=gA.size;have:=hBa.lt;injection e;omega)
   clear gc hm9 hme hBa gA
   go_wp2_with fail
   refine hK9.out _ _ (uh HGC) (fun _ => ?_)
   clear hK9 K9
   (try simp only[pq])
   refine rdq 15 none (.store 69 (.tmp 4) (.tmp 27)) (fun K9 hK9 => ?_)
   rw[if_pos (by rfl)]
   refine wp_store_row _ _ _ rfl (W2.heap.size) (hfC f2 e2 f2 0 0 m9).toArray rfl rfl _ _ (uh HBA) (by simp[hfC,zau]) (by simp[hfC,uh HYL]) (all_oneCell_toArray (zcf _ _ _ _ _ _)) ?_
   refine hK9.out _ _ (zaj (uh HGC) _ (Or.inl (uh HPA))) (fun _ => ?_)
   clear hK9 K9
   (try simp only[Act.put])
   refine wpAnyH_done (by kernel_rfl) ?_ _
   refine NoPanic.normal ?_
   have HFB:=hide (((uh HBA)).row (hfC f2 e2 f2 0 0 m9))
   have HFM:=hide ((uh HMM).kept (zaj (zac _ (some W2.heap.size)) (hfC f2 e2 f2 0 0 m9).toArray (Or.inr rfl)) (uh HNE))
   have HFG:=hide (zaj (uh HGC) (hfC f2 e2 f2 0 0 m9).toArray (Or.inl (uh HPA)))
   go_wp2
   go_meet
   case rel=>exact ⟨_,m9,rfl,uh HPA,uh HFB,uh HFM,uh HMW,uh HFG⟩
 case rest =>
  obtain ⟨q,m,rfl,hq,hBq,hM,hmw,gx⟩:=hcut
  have hc9:=gx.cell (uh HC3) (by simp)
  have hz9:wc.cell? ⟨q,3,none⟩=some (.int .u64 0):=by rw[hBq.cell 3];rfl
  have hf9:=hBq.fz 3
  obtain ⟨W4,hW4⟩:∃ W,W=wc.setCell ⟨q,3,none⟩ (.int .u64 ((g:Int)+1)):=⟨_,rfl⟩
  have hB4:Blk W4 q 69 (hfC f2 e2 f2 (g+1) 0 m):=by rw[hW4];exact hBq.set 3 _
  have gq:wc.grownBy W4 (some q):=by rw[hW4];exact zam (zac _ _) _ _ (Or.inr rfl)
  have hmq:m≠q:=hBq.not_map hM
  have hM4:=hM.kept gq (by intro e;injection e with e;exact hmq e)
  have g4:W2.grownBy W4 none:=zae gx gq (fun y e=>by cases e;exact Or.inl hq)
  have hB5:=(uh HB2).kept g4 (by simp)
  have hr4:=zan hB4
  obtain ⟨H,hH⟩:∃ H,H=hfC f2 e2 f2 (g+1) 0 m:=⟨_,rfl⟩
  rw[← hH] at hr4
  have HHE:=hide hH
  have HHI:=hide (show (Tryz.prog.info? 69).map (·.size)=some H.toArray.size by rw[hH];simp[hfC,zau])
  have HHL:=hide (show (Tryz.prog.info? 69).map (·.size)=some H.length by rw[hH];simp[hfC,zau])
  have HHY:=hide (show Y.toArray.size=H.toArray.size by rw[hH];simp[hfC,uh HYL])
  have HHO:=hide (show H.toArray.all (·.oneCell')=true by rw[hH];exact all_oneCell_toArray (zcf _ _ _ _ _ _))
  obtain ⟨HW4,HB5⟩:=zh2 hW4 hB5
  have HM5:=hide (hM4.kept (zaj (zac W4 (some w.heap.size)) H.toArray (Or.inr rfl)) (by intro e;injection e with e;have:=hB5.not_map hM4;exact this e))
  have HG5:=hide (zaj (tn (uh HG2) g4) H.toArray (Or.inl (Nat.le_refl _)))
  have HMW:=hide hmw
  clear hq hBq hM hmw gx hW4 hB4 gq hmq hM4 g4 hB5 hH
  go_wp2_with (first
   | (rw[← uh HW4])
   | (refine wpList_load_mid rfl 69 _ rfl q 0 rfl H _ hr4 Tryz.underlying69 rfl (uh HHL) ?_;clear hr4)
   | (have hB9:=uh HB5;refine wpList_store_row rfl 69 _ _ rfl w.heap.size H.toArray rfl rfl _ _ hB9 (uh HHI) (uh HHY) (uh HHO) ?_;clear hB9))
  refine bodyPost_ret (results_cell_row rfl _ _ _ _ _ _ _ rfl ((uh HB5).row H) Tryz.underlying69 rfl (uh HHI)) rfl ?_
  exact ⟨m,by rw[uh HHE],uh HM5,uh HMW,uh HG5⟩
structure HrI (w:World) (S:List (List UInt8)) (hi f r6 q m:Nat) (Y:List Value) (GG:List Nat) (ls:List (List Chg)) (g p:Nat) (W:World):Prop where
 is:HfP S hi f g p ls
 blk:Blk W q 69 (hfC f hi p g ls.length m)
 ret:Blk W r6 69 Y
 vm:VmW W m (r6::q::GG) (zal [] ls.flatten)
 gb:w.grownBy W none
set_option maxHeartbeats 4000000 in
theorem zfg {u w:World} {F:List Nat} {d:Nat} {D:Dsk} (h:Dw u w F d D) (hd:D.down=false) (hU:D.U=[]) (hT:Tabs w) (f hi:Nat) (hh:hi≤D.safe.length) (hf:f≤hi) (GG:List Nat) (hG:∀ x∈GG,x<w.heap.size) :
  Calls Tryz.prog 30 #[.pointer (some ⟨d,0,none⟩),.int .i64 (f:Int),.int .i64 (hi:Int)] w fun e w'=>∃ (ls:List (List Chg)) (g p m:Nat),e = .returned (.agg (hfC f hi p g ls.length m).toArray)∧HfS D.safe hi f g p ls∧VmW w' m GG (zal [] ls.flatten)∧w.heap.size≤m∧w.grownBy w' none:=by
 have hmost:=h.at_.ok.most
 have hwide:=h.at_.ok.wide
 obtain ⟨Y,hY⟩:∃ Y:List Value,Y=[.int .i64 0,.int .i64 0,.int .i64 0,.int .u64 0,.int .u64 0,.map none]:=⟨_,rfl⟩
 have hzv:=zdh
 rw[show (#[.int .i64 0,.int .i64 0,.int .i64 0,.int .u64 0,.int .u64 0,.map none]:Array Value)=Y.toArray by rw[hY]] at hzv
 have hYl:Y.length=6:=by rw[hY];rfl
 obtain ⟨Zr,hZr⟩:∃ Z:List Value,Z=rcC 0 0 0 (List.replicate 32 0) (.slice none 0 0):=⟨_,rfl⟩
 have hzr:=zfr
 have hZl:Zr.length=36:=by rw[hZr];exact zbn (by simp)
 have hZo:=all_oneCell_toArray (zdm 0 0 0 (List.replicate 32 0) (X := .slice none 0 0) rfl)
 rw[← hZr] at hzr hZo
 have hrc:=fun (W:World) (hW:Dw u W F d D) (hT:Tabs W) (p:Nat) (hp:p≤hi)=>zj2 hW hd hU hT p hi hh hp
 obtain ⟨S,hS⟩:∃ S,S=D.safe:=⟨_,rfl⟩
 rw[← hS] at hmost hwide hh ⊢
 simp only[← hS,← hZr] at hrc
 obtain ⟨W1,hW1,hB1,g1⟩:=zah w 69 Y
 have cn:=zd3 W1 f hi
 obtain ⟨HRC,HD,HT,HHH,HFF,HGG⟩:=zh6 hrc h hT hh hf hG
 obtain ⟨HMS,HWD,HW1,HB1,HG1,HYL⟩:=zh6 hmost hwide hW1 hB1 g1 hYl
 have HZI:=hide (show (Tryz.prog.info? 106).map (·.size)=some Zr.toArray.size by simp[hZl,zbj])
 obtain ⟨HZO,HZL⟩:=zh2 hZo hZl
 clear h hd hU hT hh hf hG hmost hwide hW1 hB1 g1 hY hYl hZr hZl hZo hS hrc
 go_enter Tryz.func30,Tryz.ntmps30
 go_wp2_with (first
  | (rw[← uh HW1])
  | (go_at_call 53;fail))
 refine cn.mono ?_
 rintro e w2 ⟨rfl,hm2,g2⟩
 obtain ⟨m,hm⟩:∃ m,m=W1.heap.size+1:=⟨_,rfl⟩
 rw[← hm] at hm2 ⊢
 obtain ⟨H0,hH0⟩:∃ H,H=hfC f hi f 0 0 m:=⟨_,rfl⟩
 rw[← hH0]
 obtain ⟨W3,hW3,hB3,g3⟩:=zbu w2 69 Y.toArray H0
 have hHl:H0.length=6:=by rw[hH0];rfl
 have HHI:=hide (show (Tryz.prog.info? 69).map (·.size)=some H0.toArray.size by simp[hHl,zau])
 have HHZ:=hide (show Y.toArray.size=H0.toArray.size by simp[hHl,uh HYL])
 have HHO:=hide (show H0.toArray.all (·.oneCell')=true by rw[hH0];exact all_oneCell_toArray (zcf _ _ _ _ _ _))
 obtain ⟨q,hq⟩:∃ q,q=w2.heap.size:=⟨_,rfl⟩
 have hmw:w.heap.size≤m:=by rw[hm];have:=(uh HG1).size;omega
 have hi0:HrI w S hi f w.heap.size q m Y GG [] 0 f W3:=by
  refine ⟨⟨rfl,fun _=>rfl,fun e=>absurd rfl e⟩,?_,(uh HB1).kept (tn g2 g3) (by simp),?_,tn (tn (uh HG1) g2) g3⟩
  ·rw[hq,show (hfC f hi f 0 ([]:List (List Chg)).length m)=H0 by rw[hH0];rfl];exact hB3
  ·exact (VmW.new (hm2.kept g3 (by simp)) _)
 obtain ⟨HI0,HW3,HMW⟩:=zh3 hi0 hW3 hmw
 have HMR:=hide (show w.heap.size<m by rw[hm];have:=(uh HB1).lt;omega)
 have HQ:=hide (show w.heap.size<q by rw[hq];exact Nat.lt_of_lt_of_le (uh HB1).lt g2.size)
 clear cn hm2 g2 hH0 hB3 g3 hHl hmw hi0 hW3 hm
 have HQE:=hide hq
 clear hq
 go_wp2_with (refine wpList_store_row rfl 69 _ _ rfl w2.heap.size H0.toArray rfl rfl _ _ (heap_alloc_new _ _) (by simpa using uh HHI) (uh HHZ) (uh HHO) ?_;rw[← uh HW3])
 rw[← uh HQE]
 have HHIL:=hide (show (Tryz.prog.info? 69).map (·.size)=some 6 from zau)
 simp only[Act.put]
 go_loopg [] (hi+1 - f) (fun k wr=>∃ (ls:List (List Chg)) (g p:Nat),Hid (HrI w S hi f w.heap.size q m Y GG ls g p wr)∧hi+1 - p≤k)
 case atStart=>exact ⟨[],0,f,uh HI0,Nat.le_refl _⟩
 case round =>
  clear HI0 HW3 HQE HHI HHZ HHO
  obtain ⟨ls,g,p,HI,hk⟩:=hrel
  have hI:=uh HI
  have hpf:=hI.is.pre.fits (uh HFF)
  have hln:=hI.is.pre.len
  have hcp:wr.cell? ⟨q,2,none⟩=some (.int .i64 (p:Int)):=by rw[hI.blk.cell 2];rfl
  have cr:=uh HRC wr ((uh HD).nn hI.gb) ((uh HT).kept0 hI.gb) p hpf
  have hrl:=zan hI.blk
  obtain ⟨HC,hHC⟩:∃ C,C=hfC f hi p g ls.length m:=⟨_,rfl⟩
  rw[← hHC] at hrl
  obtain ⟨HHC,HKK,HPF,HLN,HI2⟩:=zh5 hHC hk hpf hln hI
  have hfin:∀ W,wr.grownBy W none→∀ ls' g' p',HfS S hi f g' p' ls'→HC=hfC f hi p' g' ls'.length m→zal [] ls'.flatten=zal [] ls.flatten→∃ (ls:List (List Chg)) (g p m:Nat),Ending.returned (Value.agg HC.toArray) = .returned (.agg (hfC f hi p g ls.length m).toArray)∧HfS S hi f g p ls∧VmW (W.setRow w.heap.size HC.toArray) m GG (zal [] ls.flatten)∧w.heap.size≤m∧w.grownBy (W.setRow w.heap.size HC.toArray) none:=fun W gW ls' g' p' h1 h2 h3=>by
   refine ⟨ls',g',p',m,by rw[h2],h1,?_,uh HMW,zaj (tn hI.gb gW) _ (Or.inl (Nat.le_refl _))⟩
   rw[h3]
   have hv:=(hI.vm.nn gW).fr (Fr.of (zaj (zac W (some w.heap.size)) HC.toArray (Or.inr rfl)) (fun x e=>by cases e;exact Or.inl (List.mem_singleton.2 rfl))) (by have:=uh HMR;simp;omega) (fun x hx=>by simp at hx;simp[hx])
   exact hv.more (fun x hx=>Or.inl (by simp[hx]))
  have HFN:=hide hfin
  have HCO:=hide (show HC.toArray.all (·.oneCell')=true by rw[hHC];exact all_oneCell_toArray (zcf _ _ _ _ _ _))
  have HCI:=hide (show (Tryz.prog.info? 69).map (·.size)=some HC.toArray.size by rw[hHC];simp[hfC,zau])
  have HCL:=hide (show (Tryz.prog.info? 69).map (·.size)=some HC.length by rw[hHC];simp[hfC,zau])
  have HCY:=hide (show Y.toArray.size=HC.toArray.size by rw[hHC];simp[hfC,uh HYL])
  clear hI hpf hln hk hHC hfin HI
  go_wp2_with (go_at_call 54;fail)
  refine cr.mono ?_
  rintro e w1 ⟨g1,hres⟩
  rcases hres with ⟨hno,rfl⟩ | ⟨his,L,lo,lc,ao,c,rfl,hci,hlc,hf7,hf8⟩
  ·obtain ⟨W2,hW2,hB2,g2⟩:=zbu w1 106 Zr.toArray Zr
   have HW2:=hide hW2
   have HG2:=hide (tn g1 g2)
   have HHS:=hide ((uh HI2).is.stop (by have:=uh HLN;have:=uh HPF;have:=uh HHH;have:=uh HMS;omega) (Or.inl hno))
   have hr2:=zak hrl (uh HG2) (by simp)
   clear cr g1 hno hW2 hB2 g2 hrl
   go_upto_region 3 with (refine wpList_store_row rfl 106 _ _ rfl w1.heap.size Zr.toArray rfl rfl _ _ (heap_alloc_new _ _) (by simpa using uh HZI) rfl (uh HZO) ?_;rw[← uh HW2])
   refine zai fun O hO => ?_
   refine zab (by rw[hO];kernel_rfl) (.bool false) (fun K9 hK9=>by go_simp;exact hK9) ?_
   (try simp only[pq])
   refine zab (by rw[hO];kernel_rfl) (.bool true) (fun K9 hK9=>by go_simp;exact hK9) ?_
   (try simp only[pq])
   refine zab (by rw[hO];kernel_rfl) (.bool true) (fun K9 hK9=>by go_simp;exact hK9) ?_
   (try simp only[pq])
   refine zad (by rw[hO];kernel_rfl) ?_
   (try simp only[pq])
   refine zad (by rw[hO];kernel_rfl) ?_
   (try simp only[pq])
   refine zad (by rw[hO];kernel_rfl) ?_
   (try simp only[pq])
   refine zab (by rw[hO];kernel_rfl) (.bool true) (fun K9 hK9=>by go_simp;exact hK9) ?_
   (try simp only[pq])
   go_wp2_with (first
    | (refine wpList_load_mid rfl 69 _ rfl q 0 rfl HC _ hr2 Tryz.underlying69 rfl (uh HCL) ?_;clear hr2)
    | (have hB9:=(uh HI2).ret.kept (uh HG2) (by simp);refine wpList_store_row rfl 69 _ _ rfl w.heap.size HC.toArray rfl rfl _ _ hB9 (uh HCI) (uh HCY) (uh HCO) ?_;clear hB9))
   refine bodyPost_ret (results_cell_row rfl _ _ _ _ _ _ _ rfl (((uh HI2).ret.kept (uh HG2) (by simp)).row HC) Tryz.underlying69 rfl (uh HCI)) rfl ?_
   exact uh HFN _ (uh HG2) ls g p (uh HHS) (uh HHC) rfl
  ·obtain ⟨t,ht⟩:∃ t,t=txR S p:=⟨_,rfl⟩
   obtain ⟨G,N,z,hmk⟩:∃ G N z,rdMk (sc S p)=(G,N,z):=⟨_,_,_,rfl⟩
   have hz4:z<4294967296:=by have:=(zjx (sc S p)).2.2;rw[hmk] at this;exact this
   rw[← ht] at hlc
   rw[hmk,← ht]
   simp only
   have hmay:MayC (zb9 t):=by rw[ht];exact (za5 _).1 his.2.1
   have hst:=fun (e:goB g ls.length G N=false)=>(uh HI2).is.stop (by have:=uh HLN;have:=uh HPF;have:=uh HHH;have:=uh HMS;omega) (Or.inr (by rw[hmk];exact e))
   have hmo:=fun (e:goB g ls.length G N=true)=>(uh HI2).is.more (uh HWD) (uh HHH) his (by rw[hmk];exact e)
   rw[hmk,← ht] at hmo
   simp only at hmo
   obtain ⟨RC,hRC⟩:∃ R,R=rcC G N z (shaL t) (.slice ao z c):=⟨_,rfl⟩
   have hRl:RC.length=36:=by rw[hRC];exact zbn (zbp t)
   have HRI:=hide (show (Tryz.prog.info? 106).map (·.size)=some RC.toArray.size by simp[hRl,zbj])
   have HRL:=hide (show (Tryz.prog.info? 106).map (·.size)=some RC.length by rw[hRl];exact zbj)
   have HZR:=hide (show Zr.toArray.size=RC.toArray.size by simp[hRl,uh HZL])
   have HRO:=hide (all_oneCell_toArray (show ∀ x∈RC,x.oneCell'=true by rw[hRC];exact zdm _ _ _ _ rfl))
   obtain ⟨W2,hW2,hB2,g2⟩:=zbu w1 106 Zr.toArray RC
   have HW2:=hide hW2
   have HG2:=hide (tn g1 g2)
   have cg:=zmi W2 q f hi p g ls.length m G N z (shaL t) (.slice ao z c) ((uh HI2).blk.kept (uh HG2) (by simp))
   rw[← hRC] at cg
   have hBr:=zan hB2
   have HRCE:=hide hRC
   simp only[← hRC]
   obtain ⟨HST,HMO⟩:=zh2 hst hmo
   have hmr:m<wr.heap.size:=(uh HI2).vm.lt
   have hqr:q<wr.heap.size:=(uh HI2).blk.lt
   have hcs:∀ V,W2.grownBy V none→CsG V lo lc L [m,q]:=fun V gV =>
    ⟨(hci.kept g2).kept gV,fun ad e _=>by have:=hf7 ad e;simp;omega,fun x hx ad e _=>by have:=hf8 x hx ad e;simp;omega⟩
   have HCS:=hide hcs
   have HKY:=hide (show ∀ x∈L,x.key.length≤100000∧x.val.length≤1000000 from fun x hx=>by
    have:=hmay.2 x.chg (by rw[← hlc];exact List.mem_map.2 ⟨x,hx,rfl⟩)
    have h1:x.key.length≤96:=this.key2
    have h2:x.val.length≤65536:=this.val
    omega)
   have HLL:=hide (show L.length≤1000000 by have:=hmay.1;rw[← hlc,List.length_map] at this;omega)
   obtain ⟨HLC,HZ4⟩:=zh2 hlc hz4
   clear cr g1 his hW2 g2 hRC hst hmo hci hf7 hf8 hmay hlc hmk ht hRl hcs hmr hqr hz4
   cases hgb:goB g ls.length G N
   case false =>
    rw[hgb] at cg
    have HHS:=hide (uh HST hgb)
    clear hgb HMO
    go_upto_region 3 with (refine wpList_store_row rfl 106 _ _ rfl w1.heap.size RC.toArray rfl rfl _ _ (heap_alloc_new _ _) (by simpa using uh HRI) (uh HZR) (uh HRO) ?_;rw[← uh HW2])
    refine zai fun O hO => ?_
    refine zab (by rw[hO];kernel_rfl) (.bool true) (fun K9 hK9=>by go_simp;exact hK9) ?_
    (try simp only[pq])
    refine zab (by rw[hO];kernel_rfl) (.bool false) (fun K9 hK9=>by go_simp;exact hK9) ?_
    (try simp only[pq])
    refine zab (by rw[hO];kernel_rfl) (.bool false) (fun K9 hK9=>by go_simp;exact hK9) ?_
    (try simp only[pq])
    refine zat (by rw[hO];kernel_rfl) fun K9 hK9 => ?_
    refine wp_load_mid _ _ rfl w1.heap.size 0 rfl RC _ hBr Tryz.underlying106 rfl (uh HRL) ?_
    refine hK9 _ _ ?_
    clear hK9 K9
    (try simp only[pq])
    refine zat (by rw[hO];kernel_rfl) fun K9 hK9 => ?_
    go_simp
    go_at_call 55
    refine (cg).mono ?_
    rintro e w3 ⟨rfl,g3⟩
    have HG3:=hide (tn (uh HG2) g3)
    have HG23:=hide g3
    have HBR:=hide (hB2.kept g3 (by simp))
    clear cg g3 hB2 hBr
    refine hK9 _ _ ?_
    clear hK9 K9
    (try simp only[pq])
    refine zab (by rw[hO];kernel_rfl) (.bool true) (fun K9 hK9=>by go_simp;exact hK9) ?_
    (try simp only[pq])
    refine zab (by rw[hO];kernel_rfl) (.bool true) (fun K9 hK9=>by go_simp;exact hK9) ?_
    (try simp only[pq])
    have hr2:=zak hrl (uh HG3) (by simp)
    clear hrl
    go_wp2_with (first
     | (refine wpList_load_mid rfl 69 _ rfl q 0 rfl HC _ hr2 Tryz.underlying69 rfl (uh HCL) ?_;clear hr2)
     | (have hB9:=(uh HI2).ret.kept (uh HG3) (by simp);refine wpList_store_row rfl 69 _ _ rfl w.heap.size HC.toArray rfl rfl _ _ hB9 (uh HCI) (uh HCY) (uh HCO) ?_;clear hB9))
    refine bodyPost_ret (results_cell_row rfl _ _ _ _ _ _ _ rfl (((uh HI2).ret.kept (uh HG3) (by simp)).row HC) Tryz.underlying69 rfl (uh HCI)) rfl ?_
    exact uh HFN _ (uh HG3) ls g p (uh HHS) (uh HHC) rfl
   case true =>
    rw[hgb] at cg
    have hm2:=uh HMO hgb
    have HIS:=hide hm2.1
    clear hgb HST hrl hm2
    go_upto_region 3 with (refine wpList_store_row rfl 106 _ _ rfl w1.heap.size RC.toArray rfl rfl _ _ (heap_alloc_new _ _) (by simpa using uh HRI) (uh HZR) (uh HRO) ?_;rw[← uh HW2])
    refine zai fun O hO => ?_
    refine zab (by rw[hO];kernel_rfl) (.bool true) (fun K9 hK9=>by go_simp;exact hK9) ?_
    (try simp only[pq])
    refine zab (by rw[hO];kernel_rfl) (.bool false) (fun K9 hK9=>by go_simp;exact hK9) ?_
    (try simp only[pq])
    refine zab (by rw[hO];kernel_rfl) (.bool false) (fun K9 hK9=>by go_simp;exact hK9) ?_
    (try simp only[pq])
    refine zat (by rw[hO];kernel_rfl) fun K9 hK9 => ?_
    refine wp_load_mid _ _ rfl w1.heap.size 0 rfl RC _ hBr Tryz.underlying106 rfl (uh HRL) ?_
    refine hK9 _ _ ?_
    clear hK9 K9
    (try simp only[pq])
    refine zat (by rw[hO];kernel_rfl) fun K9 hK9 => ?_
    go_simp
    go_at_call 55
    refine (cg).mono ?_
    rintro e w3 ⟨rfl,g3⟩
    have HG3:=hide (tn (uh HG2) g3)
    have HG23:=hide g3
    have HBR:=hide (hB2.kept g3 (by simp))
    clear cg g3 hB2 hBr
    refine hK9 _ _ ?_
    clear hK9 K9
    (try simp only[pq])
    refine zab (by rw[hO];kernel_rfl) (.bool false) (fun K9 hK9=>by go_simp;exact hK9) ?_
    (try simp only[pq])
    refine zab (by rw[hO];kernel_rfl) (.bool false) (fun K9 hK9=>by go_simp;exact hK9) ?_
    (try simp only[pq])
    have hg3:=uh HG3
    have hbr:=zan (uh HBR)
    have hi3:=uh HI2
    have ct:=zk8 w3 q f hi p g ls.length m G N z (shaL t) (.slice ao z c) (hi3.blk.kept hg3 (by simp)) (uh HZ4) (by have:=uh HPF;have:=uh HHH;have:=uh HMS;omega) (by have:=uh HLN;have:=uh HPF;have:=uh HHH;have:=uh HMS;omega) (w.heap.size::q::GG) (zal [] ls.flatten) (hi3.vm.nn hg3) lo lc L (uh HCS w3 (uh HG23)) (uh HLL) (uh HKY) (fun x hx=>by
     have h1:=hi3.ret.lt
     have h2:=hi3.blk.lt
     have h3:=hg3.size
     have h4:=hi3.gb.size
     simp only[List.mem_cons] at hx
     rcases hx with rfl | rfl | hx
     ·omega
     ·omega
     ·have:=uh HGG x hx;omega) (by simp)
    rw[← uh HRCE] at ct
    have HII:=hide hi3
    clear hg3 hi3 HI2
    go_wp2_with (first
     | (refine wpList_load_mid rfl 106 _ rfl w1.heap.size 0 rfl RC _ hbr Tryz.underlying106 rfl (uh HRL) ?_;clear hbr)
     | (go_at_call 56;fail))
    refine ct.mono ?_
    rintro e w4 ⟨rfl,hb4,hv4,fr4⟩
    have hqm:∀ x∈[q,m],w.heap.size<x:=fun x hx=>by
     have:=uh HQ
     have:=uh HMR
     simp only[List.mem_cons,List.not_mem_nil,or_false] at hx
     rcases hx with rfl | rfl <;> omega
    have hgb4:w.grownBy w4 none:=((Fr.none (tn (uh HII).gb (uh HG3)) []).trans fr4 (fun x hx=>Or.inr (Nat.le_of_lt (hqm x hx)))).gb (fun x hx=>by cases hx)
    have hi4:HrI w S hi f w.heap.size q m Y GG (ls++[zb9 t]) G (p+(1+secN z)) w4:=by
     refine ⟨uh HIS,?_,fr4.blk ((uh HII).ret.kept (uh HG3) (by simp)) (fun hx=>Nat.lt_irrefl _ (hqm _ hx)),?_,hgb4⟩
     ·rw[show (ls++[zb9 t]).length=ls.length+1 by simp]
      exact hb4
     ·rw[show zal [] (ls++[zb9 t]).flatten=zal (zal [] ls.flatten) (L.map ChI.chg) by rw[List.flatten_append,zit,uh HLC];simp]
      exact hv4
    have HI4:=hide hi4
    clear ct hb4 hv4 fr4 hqm hgb4 hi4
    go_wp2
    go_roundg (hi+1 - (p+(1+secN z)))
    case measure=>have:=uh HKK;have:=uh HPF;omega
    case rel=>exact ⟨_,_,_,uh HI4,Nat.le_refl _⟩
end Go.Proofs.YtoilcpdhhlcidaaGreatDoor
