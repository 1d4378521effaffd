/- Lemmas. -/
import Derived.Test.YtegbbkgmiklhcaaGreatDoorRTree
import Derived.Test.YtegbbkgmiklhcaaGreatDoorNKindR
namespace Go.Proofs.YtegbbkgmiklhcaaGreatDoor
open Go.RowKit
def rmC (m:MrkL):List Value:=[.string (str m.target),.string (str m.name),.string (str m.text)]
set_option maxRecDepth 100000 in
set_option maxHeartbeats 4000000 in
theorem zm8 (w:World) (m:MrkL) (ht:m.target.length≤100000) (ha:m.name.length≤100000) (hx:m.text.length≤1000000) :
  Calls Tryz.prog 73 #[.agg (rmC m).toArray] w fun e w'=>zjl w w' 4 (zco m) e:=by
 obtain ⟨target,name,text⟩:=m
 simp only at ht ha hx
 have ck:∀ V,Calls Tryz.prog 106 #[.string (str name)] V fun e w'=>e = .returned (.int .i64 (zdr name))∧V.grownBy w' none:=fun V=>zot V name ha
 have hdata:mrkB ⟨target,name,text⟩=(target++layS name)++layS text:=rfl
 obtain ⟨Q1,hQ1⟩:∃ Q,Q=target++layS name:=⟨_,rfl⟩
 obtain ⟨Q2,hQ2⟩:∃ Q,Q=Q1++layS text:=⟨_,rfl⟩
 have hq1:Q1.length≤300000:=by rw[hQ1,List.length_append,zbf];omega
 have hq2:Q2.length≤2000000:=by rw[hQ2,List.length_append,zbf];omega
 have cs1:∀ V,Calls Tryz.prog 52 #[.string (str target),.string (str name)] V fun e w'=>e = .returned (.string (str Q1))∧V.grownBy w' none:=fun V=>by rw[hQ1];exact zc6 V target name (by omega)
 have cs2:∀ V,Calls Tryz.prog 52 #[.string (str Q1),.string (str text)] V fun e w'=>e = .returned (.string (str Q2))∧V.grownBy w' none:=fun V=>by rw[hQ2];exact zc6 V Q1 text (by omega)
 have cf:∀ V,Calls Tryz.prog 105 #[.int .i64 4,.string (str Q2)] V fun e w'=>zjl V w' 4 (fitB Q2) e:=fun V=>zio V 4 Q2 (by omega)
 rw[← hQ1,← hQ2] at hdata
 have hzt:=zaj text
 obtain ⟨n,hn⟩:∃ n,n=text.length:=⟨_,rfl⟩
 rw[← hn] at hzt
 obtain ⟨k,hk⟩:∃ k,k=zdr name:=⟨_,rfl⟩
 rw[← hk] at ck
 have hof:zco ⟨target,name,text⟩=(if k=2 then fitB Q2 else (2,[])):=by rw[hk,← hdata];rfl
 obtain ⟨R,hR⟩:∃ R,R=zco ⟨target,name,text⟩:=⟨_,rfl⟩
 rw[← hR] at hof ⊢
 show Calls Tryz.prog 73 #[.agg #[.string (str target),.string (str name),.string (str text)]] w _
 obtain ⟨TT,hTT⟩:∃ T,T=str target:=⟨_,rfl⟩
 obtain ⟨TN,hTN⟩:∃ T,T=str name:=⟨_,rfl⟩
 obtain ⟨TX,hTX⟩:∃ T,T=str text:=⟨_,rfl⟩
 obtain ⟨T1,hT1⟩:∃ T,T=str Q1:=⟨_,rfl⟩
 obtain ⟨T2,hT2⟩:∃ T,T=str Q2:=⟨_,rfl⟩
 rw[← hTT] at cs1 ⊢
 rw[← hTN] at ck cs1 ⊢
 rw[← hTX] at cs2 hzt ⊢
 rw[← hT1] at cs1 cs2
 rw[← hT2] at cs2 cf
 have hbig:fitB Q2=(3,[])∨n≤16384:=by
  by_cases h:n≤16384
  ·exact Or.inr h
  ·left
   have:16384<Q2.length:=by rw[hQ2,List.length_append,zbf];omega
   simp[fitB,this]
 obtain ⟨W0,hW0,hB0,g0⟩:∃ W1,W1=w.alloc (.cells #[.string TT,.string TN,.string TX] 104)∧Blk W1 w.heap.size 104 [.string TT,.string TN,.string TX]∧w.grownBy W1 none:=zag w _ _
 obtain ⟨S0,hS0⟩:∃ S,S=str []:=⟨_,rfl⟩
 have hzv:=zfd
 rw[← hS0] at hzv
 obtain ⟨W1,hW1,hB1,g1⟩:∃ W1,W1=W0.alloc (.cells #[.int .i64 0,.string S0] 44)∧Blk W1 W0.heap.size 44 [.int .i64 0,.string S0]∧W0.grownBy W1 none:=zag W0 _ _
 have hs0:W0.heap.size=w.heap.size+1:=by rw[hW0];simp
 rw[hs0] at hB1
 have hBo:=hB0.kept g1 (by simp)
 have c0:=hBo.cell 0
 have c1:=hBo.cell 1
 have c2:=hBo.cell 2
 simp only[List.getElem?_cons_zero,List.getElem?_cons_succ] at c0 c1 c2
 have G1:=tn g0 g1
 have hW:W1=(w.alloc (.cells #[.string TT,.string TN,.string TX] 104)).alloc (.cells #[.int .i64 0,.string S0] 44):=by rw[hW1,hW0]
 obtain ⟨HW,HB1,HG1,HS0,HOF,HBIG⟩:=zh6 hW hB1 G1 hS0 hof hbig
 clear hW hW0 hW1 hB0 hB1 g0 g1 hs0 G1 hS0 hof hbig hTT hTN hTX hT1 hT2 hQ1 hQ2 hq1 hq2 hR hdata hk ht ha hx
 have hckw:=ck W1
 go_enter Tryz.func73,Tryz.ntmps73
 go_wp2_with (rw[← uh HW])
 refine hckw.mono ?_
 rintro e w2 ⟨rfl,g2⟩
 have hBr:=(uh HB1).kept g2 (by simp)
 have hBo2:=hBo.kept g2 (by simp)
 have G2:=tn (uh HG1) g2
 have hf0:=hBr.fz 0
 have hf1:=hBr.fz 1
 have hd0:=hBr.cell 0
 have hd1:=hBr.cell 1
 have e0:=g2.cell c0 (by simp)
 have e1:=g2.cell c1 (by simp)
 have e2:=g2.cell c2 (by simp)
 simp only[List.getElem?_cons_zero,List.getElem?_cons_succ] at hd0 hd1
 clear hckw ck c0 c1 c2 hBo
 by_cases hk2:k=2
 ·subst hk2
  by_cases hn16:n≤16384
  ·have hn1:¬ (16384:Int)<(n:Int):=by omega
   have hres:R=fitB Q2:=by rw[uh HOF,if_pos rfl]
   have HRS:=hide hres
   clear hres HBIG hn16
   have h0:w.grownBy w2.drew none∧Blk w2.drew w.heap.size 104 [.string TT,.string TN,.string TX]:=⟨zan G2,hBo2.drew⟩
   go_upto_region 5 with fail
   refine wp_region_noPanic ?_
   refine wp_region_held_drew (S:=fun V=>w.grownBy V none∧Blk V w.heap.size 104 [.string TT,.string TN,.string TX]) (by kernel_rfl) h0 (fun _ => ?_)
   refine tq 0 14 (.fieldAddr 104 (.tmp 1) 0) (.pointer (some ⟨w.heap.size,0,none⟩)) h0 ?_
   refine tz 1 15 (.load 9 (.tmp 14)) (.string TT) h0 ?_ (y:=(Or.inl ⟨by rfl,fun V hV=>by (have q9:=hV.2.cell 0;simp only[List.getElem?_cons_zero] at q9;go_simp)⟩))
   refine tq 2 16 (.fieldAddr 104 (.tmp 1) 1) (.pointer (some ⟨w.heap.size,1,none⟩)) h0 ?_
   refine tz 3 17 (.load 9 (.tmp 16)) (.string TN) h0 ?_ (y:=(Or.inl ⟨by rfl,fun V hV=>by (have q9:=hV.2.cell 1;simp only[List.getElem?_cons_zero,List.getElem?_cons_succ] at q9;go_simp)⟩))
   (try simp only[pq])
   refine tq 5 19 (.fieldAddr 104 (.tmp 1) 2) (.pointer (some ⟨w.heap.size,2,none⟩)) h0 ?_
   refine tz 6 20 (.load 9 (.tmp 19)) (.string TX) h0 ?_ (y:=(Or.inl ⟨by rfl,fun V hV=>by (have q9:=hV.2.cell 2;simp only[List.getElem?_cons_zero,List.getElem?_cons_succ] at q9;go_simp)⟩))
   (try simp only[pq])
   refine rdq 4 (some 18) (.call { callee := .value (.func 52),args := #[(.tmp 15),(.tmp 17)],argTypes := #[9,9] }) (fun K9 hK9 => ?_)
   go_simp
   go_at_call 52
   refine (cs1 _).mono ?_
   rintro e w3 ⟨rfl,g3a⟩
   have h3:w.grownBy w3 none∧Blk w3 w.heap.size 104 [.string TT,.string TN,.string TX]:=⟨tn h0.1 g3a,h0.2.kept g3a (by simp)⟩
   go_wp2_with fail
   refine hK9.out _ _ h3 (fun _ => ?_)
   clear hK9 K9
   (try simp only[pq])
   refine rdq 7 (some 21) (.call { callee := .value (.func 52),args := #[(.tmp 18),(.tmp 20)],argTypes := #[9,9] }) (fun K9 hK9 => ?_)
   go_simp
   go_at_call 52
   refine (cs2 _).mono ?_
   rintro e w4 ⟨rfl,g4a⟩
   have h4:w.grownBy w4 none∧Blk w4 w.heap.size 104 [.string TT,.string TN,.string TX]:=⟨tn h3.1 g4a,h3.2.kept g4a (by simp)⟩
   go_wp2_with fail
   refine hK9.out _ _ h4 (fun _ => ?_)
   clear hK9 K9
   (try simp only[pq])
   refine rdq 8 (some 22) (.call { callee := .value (.func 105),args := #[.const (.int .i64 4),(.tmp 21)],argTypes := #[3,9] }) (fun K9 hK9 => ?_)
   go_simp
   go_at_call 105
   refine (cf _).mono ?_
   rintro e w5 ⟨rfl,g5a⟩
   have h5:w.grownBy w5 none∧Blk w5 w.heap.size 104 [.string TT,.string TN,.string TX]:=⟨tn h4.1 g5a,h4.2.kept g5a (by simp)⟩
   obtain ⟨K,hK⟩:∃ K:Int,K=(if (fitB Q2).1=0 then 4 else 0):=⟨_,rfl⟩
   obtain ⟨x,hx⟩:∃ x:Int,x=(fitB Q2).1:=⟨_,rfl⟩
   obtain ⟨SS,hSS⟩:∃ S,S=str (fitB Q2).2:=⟨_,rfl⟩
   rw[← hK,← hx,← hSS]
   obtain ⟨HK,HX,HSS⟩:=zh3 hK hx hSS
   clear hK hx hSS
   go_wp2_with fail
   refine hK9.out _ _ h5 (fun _ => ?_)
   clear hK9 K9
   (try simp only[pq])
   have hR5:=((hBr.drew.kept g3a (by simp)).kept g4a (by simp)).kept g5a (by simp)
   clear hd0 hd1 hf0 hf1
   have k0:=hR5.cell 0
   have k1:=hR5.cell 1
   have z0:=hR5.fz 0
   have z1:=hR5.fz 1
   simp only[List.getElem?_cons_zero,List.getElem?_cons_succ] at k0 k1
   clear g3a g4a g5a
   refine tq 9 23 (.extract (.tmp 22) 0) (.agg #[.int .i64 K,.string SS]) h5 ?_
   refine tq 10 24 (.extract (.tmp 22) 1) (.int .i64 x) h5 ?_
   (try simp only[pq])
   have h6:w.grownBy ((w5.setCell ⟨w.heap.size+1,0,none⟩ (.int .i64 K)).setCell ⟨w.heap.size+1,1,none⟩ (.string SS)) none∧Blk ((w5.setCell ⟨w.heap.size+1,0,none⟩ (.int .i64 K)).setCell ⟨w.heap.size+1,1,none⟩ (.string SS)) w.heap.size 104 [.string TT,.string TN,.string TX]:=⟨zab (zab h5.1 _ _ (Or.inl (Nat.le_succ _))) _ _ (Or.inl (Nat.le_succ _)),(h5.2.other _ _ (by simp)).other _ _ (by simp)⟩
   refine rdq 11 none (.store 44 (.tmp 2) (.tmp 23)) (fun K9 hK9 => ?_)
   go_simp
   refine hK9.out _ _ h6 (fun _ => ?_)
   clear hK9 K9
   refine tq 12 3 (.assign (.tmp 24)) (.int .i64 x) h6 ?_
   (try simp only[pq])
   refine wpAnyH_done (by kernel_rfl) ?_ _
   refine NoPanic.normal ?_
   clear k0 k1 z0 z1 h6
   go_wp2
   refine bodyPost_ret (zaf rfl _ _ _ _ _ _ _ rfl ((hR5.set 0 (.int .i64 K)).set 1 (.string SS)) Tryz.underlying44 rfl zb3) rfl ?_
   refine ⟨?_,zab (zab h5.1 _ _ (Or.inl (Nat.le_succ _))) _ _ (Or.inl (Nat.le_succ _))⟩
   rw[uh HRS,← uh HK,← uh HX,← uh HSS]
   rfl
  ·have hn1:(16384:Int)<(n:Int):=by omega
   have hres:R=(3,[]):=by
    rw[uh HOF,if_pos rfl]
    rcases uh HBIG with h | h
    ·exact h
    ·exact absurd h hn16
   have HRS:=hide hres
   clear hres HBIG hn16
   go_wp2
   refine bodyPost_ret (zaf rfl _ _ _ _ _ _ _ rfl ((hBr.set 0 (.int .i64 0)).set 1 _) Tryz.underlying44 rfl zb3) rfl ?_
   refine ⟨by rw[uh HRS,uh HS0];rfl,zab (zab G2 _ _ (Or.inl (Nat.le_succ _))) _ _ (Or.inl (Nat.le_succ _))⟩
 ·have hk3:(k == 2)=false:=by simpa using hk2
  have hres:R=(2,[]):=by rw[uh HOF,if_neg hk2]
  have HRS:=hide hres
  clear hres HBIG
  go_wp2
  refine bodyPost_ret (zaf rfl _ _ _ _ _ _ _ rfl ((hBr.set 0 (.int .i64 0)).set 1 _) Tryz.underlying44 rfl zb3) rfl ?_
  refine ⟨by rw[uh HRS,uh HS0];rfl,zab (zab G2 _ _ (Or.inl (Nat.le_succ _))) _ _ (Or.inl (Nat.le_succ _))⟩
end Go.Proofs.YtegbbkgmiklhcaaGreatDoor
