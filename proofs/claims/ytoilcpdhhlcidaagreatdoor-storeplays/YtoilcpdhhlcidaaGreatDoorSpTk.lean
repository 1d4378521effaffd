/- Lemmas. -/
import Derived.Test.YtoilcpdhhlcidaaGreatDoorSpRr
import Derived.Test.YtoilcpdhhlcidaaGreatDoorSpV
namespace Go.Proofs.YtoilcpdhhlcidaaGreatDoor
open Go.RowKit
set_option maxRecDepth 100000
set_option maxHeartbeats 4000000 in
theorem zmi (w:World) (q f e p g r m G N z:Nat) (sl:List UInt8) (X:Value) (hb:Blk w q 69 (hfC f e p g r m)) :
  Calls Tryz.prog 55 #[.pointer (some ⟨q,0,none⟩),.agg (rcC G N z sl X).toArray] w fun e w'=>e = .returned (.bool (goB g r G N))∧w.grownBy w' none:=by
 obtain ⟨R,hR⟩:∃ R,R=rcC G N z sl X:=⟨_,rfl⟩
 rw[← hR]
 obtain ⟨W1,hW1,hB1,g1⟩:=zah w 106 R
 have hb1:=hb.kept g1 (by simp)
 have HW1:=hide hW1
 have hc0:W1.cell? ⟨w.heap.size,0,none⟩=some (.int .u64 (G:Int)):=by rw[hB1.cell 0,hR];rfl
 have hc1:W1.cell? ⟨w.heap.size,1,none⟩=some (.int .u64 (N:Int)):=by rw[hB1.cell 1,hR];rfl
 have hcr:W1.cell? ⟨q,4,none⟩=some (.int .u64 (r:Int)):=by rw[hb1.cell 4];rfl
 have hcg:W1.cell? ⟨q,3,none⟩=some (.int .u64 (g:Int)):=by rw[hb1.cell 3];rfl
 obtain ⟨HG1,HC0,HC1,HCR,HCG⟩:=zh5 g1 hc0 hc1 hcr hcg
 clear hR hW1 hB1 g1 hb1 hb 
 by_cases h0:r=0
 ·subst h0
  have e1:goB g 0 G N=(N == 0 && decide (0<G)):=rfl
  rw[e1]
  by_cases hN:N=0
  ·have hNi:((N:Int) == 0)=true:=by rw[hN];rfl
   by_cases hG:0<G
   ·have hGi:decide (0<G)=true:=decide_eq_true hG
    have e2:(N == 0 && decide (0<G))=true:=by simp[hN,hG]
    rw[e2]
    clear e1 e2 hG hN
    go_enter Tryz.func55,Tryz.ntmps55
    go_upto_region 2 with (rw[← uh HW1])
    refine zai fun O hO => ?_
    refine zab (by rw[hO];kernel_rfl) (.pointer (some ⟨w.heap.size,0,none⟩)) (fun K9 hK9=>by go_simp;exact hK9) ?_
    (try simp only[pq])
    refine zab (by rw[hO];kernel_rfl) (.pointer (some ⟨w.heap.size,1,none⟩)) (fun K9 hK9=>by go_simp;exact hK9) ?_
    (try simp only[pq])
    refine zab (by rw[hO];kernel_rfl) (.int .u64 (N:Int)) (fun K9 hK9=>by go_simp;exact hK9) ?_
    (try simp only[pq])
    refine zab (by rw[hO];kernel_rfl) (.bool true) (fun K9 hK9=>by go_simp;exact hK9) ?_
    (try simp only[pq])
    refine zab (by rw[hO];kernel_rfl) (.bool true) (fun K9 hK9=>by go_simp;exact hK9) ?_
    (try simp only[pq])
    refine zab (by rw[hO];kernel_rfl) (.pointer (some ⟨w.heap.size,0,none⟩)) (fun K9 hK9=>by go_simp;exact hK9) ?_
    (try simp only[pq])
    refine zab (by rw[hO];kernel_rfl) (.pointer (some ⟨w.heap.size,0,none⟩)) (fun K9 hK9=>by go_simp;exact hK9) ?_
    (try simp only[pq])
    refine zab (by rw[hO];kernel_rfl) (.int .u64 (G:Int)) (fun K9 hK9=>by go_simp;exact hK9) ?_
    (try simp only[pq])
    refine zab (by rw[hO];kernel_rfl) (.bool true) (fun K9 hK9=>by go_simp;exact hK9) ?_
    (try simp only[pq])
    refine zab (by rw[hO];kernel_rfl) (.bool true) (fun K9 hK9=>by go_simp;exact hK9) ?_
    (try simp only[pq])
    refine zab (by rw[hO];kernel_rfl) (.bool true) (fun K9 hK9=>by go_simp;exact hK9) ?_
    (try simp only[pq])
    go_wp2
    go_ret
    exact ⟨rfl,uh HG1⟩
   ·have hGi:decide (0<G)=false:=decide_eq_false hG
    have e2:(N == 0 && decide (0<G))=false:=by simp[hG]
    rw[e2]
    clear e1 e2 hG hN
    go_enter Tryz.func55,Tryz.ntmps55
    go_upto_region 2 with (rw[← uh HW1])
    refine zai fun O hO => ?_
    refine zab (by rw[hO];kernel_rfl) (.pointer (some ⟨w.heap.size,0,none⟩)) (fun K9 hK9=>by go_simp;exact hK9) ?_
    (try simp only[pq])
    refine zab (by rw[hO];kernel_rfl) (.pointer (some ⟨w.heap.size,1,none⟩)) (fun K9 hK9=>by go_simp;exact hK9) ?_
    (try simp only[pq])
    refine zab (by rw[hO];kernel_rfl) (.int .u64 (N:Int)) (fun K9 hK9=>by go_simp;exact hK9) ?_
    (try simp only[pq])
    refine zab (by rw[hO];kernel_rfl) (.bool true) (fun K9 hK9=>by go_simp;exact hK9) ?_
    (try simp only[pq])
    refine zab (by rw[hO];kernel_rfl) (.bool true) (fun K9 hK9=>by go_simp;exact hK9) ?_
    (try simp only[pq])
    refine zab (by rw[hO];kernel_rfl) (.pointer (some ⟨w.heap.size,0,none⟩)) (fun K9 hK9=>by go_simp;exact hK9) ?_
    (try simp only[pq])
    refine zab (by rw[hO];kernel_rfl) (.pointer (some ⟨w.heap.size,0,none⟩)) (fun K9 hK9=>by go_simp;exact hK9) ?_
    (try simp only[pq])
    refine zab (by rw[hO];kernel_rfl) (.int .u64 (G:Int)) (fun K9 hK9=>by go_simp;exact hK9) ?_
    (try simp only[pq])
    refine zab (by rw[hO];kernel_rfl) (.bool false) (fun K9 hK9=>by go_simp;exact hK9) ?_
    (try simp only[pq])
    refine zab (by rw[hO];kernel_rfl) (.bool false) (fun K9 hK9=>by go_simp;exact hK9) ?_
    (try simp only[pq])
    refine zab (by rw[hO];kernel_rfl) (.bool false) (fun K9 hK9=>by go_simp;exact hK9) ?_
    (try simp only[pq])
    go_wp2
    go_ret
    exact ⟨rfl,uh HG1⟩
  ·have hNi:((N:Int) == 0)=false:=beq_eq_false_iff_ne.2 (by omega)
   have e2:(N == 0 && decide (0<G))=false:=by simp[hN]
   rw[e2]
   clear e1 e2 hN
   go_enter Tryz.func55,Tryz.ntmps55
   go_upto_region 2 with (rw[← uh HW1])
   refine zai fun O hO => ?_
   refine zab (by rw[hO];kernel_rfl) (.pointer (some ⟨w.heap.size,0,none⟩)) (fun K9 hK9=>by go_simp;exact hK9) ?_
   (try simp only[pq])
   refine zab (by rw[hO];kernel_rfl) (.pointer (some ⟨w.heap.size,1,none⟩)) (fun K9 hK9=>by go_simp;exact hK9) ?_
   (try simp only[pq])
   refine zab (by rw[hO];kernel_rfl) (.int .u64 (N:Int)) (fun K9 hK9=>by go_simp;exact hK9) ?_
   (try simp only[pq])
   refine zab (by rw[hO];kernel_rfl) (.bool false) (fun K9 hK9=>by go_simp;exact hK9) ?_
   (try simp only[pq])
   refine zab (by rw[hO];kernel_rfl) (.bool false) (fun K9 hK9=>by go_simp;exact hK9) ?_
   (try simp only[pq])
   refine zad (by rw[hO];kernel_rfl) ?_
   (try simp only[pq])
   refine zad (by rw[hO];kernel_rfl) ?_
   (try simp only[pq])
   refine zad (by rw[hO];kernel_rfl) ?_
   (try simp only[pq])
   refine zad (by rw[hO];kernel_rfl) ?_
   (try simp only[pq])
   refine zab (by rw[hO];kernel_rfl) (.bool false) (fun K9 hK9=>by go_simp;exact hK9) ?_
   (try simp only[pq])
   refine zab (by rw[hO];kernel_rfl) (.bool false) (fun K9 hK9=>by go_simp;exact hK9) ?_
   (try simp only[pq])
   go_wp2
   go_ret
   exact ⟨rfl,uh HG1⟩
 ·have hri:((r:Int) == 0)=false:=beq_eq_false_iff_ne.2 (by omega)
  have e1:goB g r G N=(N == r && G == g):=by unfold goB;rw[if_neg h0]
  rw[e1]
  by_cases hN:N=r
  ·have hNi:((N:Int) == (r:Int))=true:=by rw[hN];exact beq_self_eq_true _
   by_cases hG:G=g
   ·have hGi:((G:Int) == (g:Int))=true:=by rw[hG];exact beq_self_eq_true _
    have e2:(N == r && G == g)=true:=by simp[hG,hN]
    rw[e2]
    clear e1 e2 hG hN h0
    go_enter Tryz.func55,Tryz.ntmps55
    go_upto_region 3 with (rw[← uh HW1])
    refine wp_region_noPanic ?_
    refine wp_region_held_drew (S:=fun V=>W1.grownBy V none) (by kernel_rfl) (zaa (zac W1 none)) (fun _ => ?_)
    refine tq 0 20 (.fieldAddr 106 (.tmp 3) 0) ((.pointer (some ⟨w.heap.size,0,none⟩))) (zaa (zac W1 none)) ?_
    refine tq 1 21 (.fieldAddr 104 (.tmp 20) 1) ((.pointer (some ⟨w.heap.size,1,none⟩))) (zaa (zac W1 none)) ?_
    refine tz 2 22 (.load 45 (.tmp 21)) ((.int .u64 (N:Int))) (zaa (zac W1 none)) ?_ (y:=(Or.inl ⟨by rfl,fun V hV=>by (have hv1:=hV.cell (uh HC1) (by simp);go_simp)⟩))
    refine tq 3 23 (.move (.tmp 0)) ((.pointer (some ⟨q,0,none⟩))) (zaa (zac W1 none)) ?_
    (try simp only[pq])
    refine tq 4 24 (.nilCheck (.tmp 23)) ((.pointer (some ⟨q,0,none⟩))) (zaa (zac W1 none)) ?_
    refine tq 5 25 (.fieldAddr 69 (.tmp 24) 4) ((.pointer (some ⟨q,4,none⟩))) (zaa (zac W1 none)) ?_
    refine tz 6 26 (.load 45 (.tmp 25)) ((.int .u64 (r:Int))) (zaa (zac W1 none)) ?_ (y:=(Or.inl ⟨by rfl,fun V hV=>by (have hv1:=hV.cell (uh HCR) (by simp);go_simp)⟩))
    refine tq 7 27 (.binOp .eql 45 (.tmp 22) (.tmp 26) 45) ((.bool true)) (zaa (zac W1 none)) ?_
    (try simp only[pq])
    refine tq 8 28 (.move (.tmp 27)) ((.bool true)) (zaa (zac W1 none)) ?_
    refine tq 9 29 (.fieldAddr 106 (.tmp 3) 0) ((.pointer (some ⟨w.heap.size,0,none⟩))) (zaa (zac W1 none)) ?_
    refine tq 10 30 (.fieldAddr 104 (.tmp 29) 0) ((.pointer (some ⟨w.heap.size,0,none⟩))) (zaa (zac W1 none)) ?_
    refine tz 11 31 (.load 45 (.tmp 30)) ((.int .u64 (G:Int))) (zaa (zac W1 none)) ?_ (y:=(Or.inl ⟨by rfl,fun V hV=>by (have hv1:=hV.cell (uh HC0) (by simp);go_simp)⟩))
    (try simp only[pq])
    refine tq 12 32 (.move (.tmp 0)) ((.pointer (some ⟨q,0,none⟩))) (zaa (zac W1 none)) ?_
    refine tq 13 33 (.nilCheck (.tmp 32)) ((.pointer (some ⟨q,0,none⟩))) (zaa (zac W1 none)) ?_
    refine tq 14 34 (.fieldAddr 69 (.tmp 33) 3) ((.pointer (some ⟨q,3,none⟩))) (zaa (zac W1 none)) ?_
    refine tz 15 35 (.load 45 (.tmp 34)) ((.int .u64 (g:Int))) (zaa (zac W1 none)) ?_ (y:=(Or.inl ⟨by rfl,fun V hV=>by (have hv1:=hV.cell (uh HCG) (by simp);go_simp)⟩))
    (try simp only[pq])
    refine tq 16 36 (.binOp .eql 45 (.tmp 31) (.tmp 35) 45) ((.bool true)) (zaa (zac W1 none)) ?_
    refine tq 17 37 (.pick (.tmp 28) (.tmp 36) (.const (.bool false))) ((.bool true)) (zaa (zac W1 none)) ?_
    refine tq 18 4 (.assign (.tmp 37)) ((.bool true)) (zaa (zac W1 none)) ?_
    (try simp only[pq])
    refine wpAnyH_done (by kernel_rfl) ?_ _
    refine NoPanic.normal ?_
    go_wp2
    go_ret
    exact ⟨rfl,zaa (uh HG1)⟩
   ·have hGi:((G:Int) == (g:Int))=false:=beq_eq_false_iff_ne.2 (by omega)
    have e2:(N == r && G == g)=false:=by simp[hG]
    rw[e2]
    clear e1 e2 hG hN h0
    go_enter Tryz.func55,Tryz.ntmps55
    go_upto_region 3 with (rw[← uh HW1])
    refine wp_region_noPanic ?_
    refine wp_region_held_drew (S:=fun V=>W1.grownBy V none) (by kernel_rfl) (zaa (zac W1 none)) (fun _ => ?_)
    refine tq 0 20 (.fieldAddr 106 (.tmp 3) 0) ((.pointer (some ⟨w.heap.size,0,none⟩))) (zaa (zac W1 none)) ?_
    refine tq 1 21 (.fieldAddr 104 (.tmp 20) 1) ((.pointer (some ⟨w.heap.size,1,none⟩))) (zaa (zac W1 none)) ?_
    refine tz 2 22 (.load 45 (.tmp 21)) ((.int .u64 (N:Int))) (zaa (zac W1 none)) ?_ (y:=(Or.inl ⟨by rfl,fun V hV=>by (have hv1:=hV.cell (uh HC1) (by simp);go_simp)⟩))
    refine tq 3 23 (.move (.tmp 0)) ((.pointer (some ⟨q,0,none⟩))) (zaa (zac W1 none)) ?_
    (try simp only[pq])
    refine tq 4 24 (.nilCheck (.tmp 23)) ((.pointer (some ⟨q,0,none⟩))) (zaa (zac W1 none)) ?_
    refine tq 5 25 (.fieldAddr 69 (.tmp 24) 4) ((.pointer (some ⟨q,4,none⟩))) (zaa (zac W1 none)) ?_
    refine tz 6 26 (.load 45 (.tmp 25)) ((.int .u64 (r:Int))) (zaa (zac W1 none)) ?_ (y:=(Or.inl ⟨by rfl,fun V hV=>by (have hv1:=hV.cell (uh HCR) (by simp);go_simp)⟩))
    refine tq 7 27 (.binOp .eql 45 (.tmp 22) (.tmp 26) 45) ((.bool true)) (zaa (zac W1 none)) ?_
    (try simp only[pq])
    refine tq 8 28 (.move (.tmp 27)) ((.bool true)) (zaa (zac W1 none)) ?_
    refine tq 9 29 (.fieldAddr 106 (.tmp 3) 0) ((.pointer (some ⟨w.heap.size,0,none⟩))) (zaa (zac W1 none)) ?_
    refine tq 10 30 (.fieldAddr 104 (.tmp 29) 0) ((.pointer (some ⟨w.heap.size,0,none⟩))) (zaa (zac W1 none)) ?_
    refine tz 11 31 (.load 45 (.tmp 30)) ((.int .u64 (G:Int))) (zaa (zac W1 none)) ?_ (y:=(Or.inl ⟨by rfl,fun V hV=>by (have hv1:=hV.cell (uh HC0) (by simp);go_simp)⟩))
    (try simp only[pq])
    refine tq 12 32 (.move (.tmp 0)) ((.pointer (some ⟨q,0,none⟩))) (zaa (zac W1 none)) ?_
    refine tq 13 33 (.nilCheck (.tmp 32)) ((.pointer (some ⟨q,0,none⟩))) (zaa (zac W1 none)) ?_
    refine tq 14 34 (.fieldAddr 69 (.tmp 33) 3) ((.pointer (some ⟨q,3,none⟩))) (zaa (zac W1 none)) ?_
    refine tz 15 35 (.load 45 (.tmp 34)) ((.int .u64 (g:Int))) (zaa (zac W1 none)) ?_ (y:=(Or.inl ⟨by rfl,fun V hV=>by (have hv1:=hV.cell (uh HCG) (by simp);go_simp)⟩))
    (try simp only[pq])
    refine tq 16 36 (.binOp .eql 45 (.tmp 31) (.tmp 35) 45) ((.bool false)) (zaa (zac W1 none)) ?_
    refine tq 17 37 (.pick (.tmp 28) (.tmp 36) (.const (.bool false))) ((.bool false)) (zaa (zac W1 none)) ?_
    refine tq 18 4 (.assign (.tmp 37)) ((.bool false)) (zaa (zac W1 none)) ?_
    (try simp only[pq])
    refine wpAnyH_done (by kernel_rfl) ?_ _
    refine NoPanic.normal ?_
    go_wp2
    go_ret
    exact ⟨rfl,zaa (uh HG1)⟩
  ·have hNi:((N:Int) == (r:Int))=false:=beq_eq_false_iff_ne.2 (by omega)
   have e2:(N == r && G == g)=false:=by simp[hN]
   rw[e2]
   clear e1 e2 hN h0
   go_enter Tryz.func55,Tryz.ntmps55
   go_upto_region 3 with (rw[← uh HW1])
   refine wp_region_noPanic ?_
   refine wp_region_held_drew (S:=fun V=>W1.grownBy V none) (by kernel_rfl) (zaa (zac W1 none)) (fun _ => ?_)
   refine tq 0 20 (.fieldAddr 106 (.tmp 3) 0) ((.pointer (some ⟨w.heap.size,0,none⟩))) (zaa (zac W1 none)) ?_
   refine tq 1 21 (.fieldAddr 104 (.tmp 20) 1) ((.pointer (some ⟨w.heap.size,1,none⟩))) (zaa (zac W1 none)) ?_
   refine tz 2 22 (.load 45 (.tmp 21)) ((.int .u64 (N:Int))) (zaa (zac W1 none)) ?_ (y:=(Or.inl ⟨by rfl,fun V hV=>by (have hv1:=hV.cell (uh HC1) (by simp);go_simp)⟩))
   refine tq 3 23 (.move (.tmp 0)) ((.pointer (some ⟨q,0,none⟩))) (zaa (zac W1 none)) ?_
   (try simp only[pq])
   refine tq 4 24 (.nilCheck (.tmp 23)) ((.pointer (some ⟨q,0,none⟩))) (zaa (zac W1 none)) ?_
   refine tq 5 25 (.fieldAddr 69 (.tmp 24) 4) ((.pointer (some ⟨q,4,none⟩))) (zaa (zac W1 none)) ?_
   refine tz 6 26 (.load 45 (.tmp 25)) ((.int .u64 (r:Int))) (zaa (zac W1 none)) ?_ (y:=(Or.inl ⟨by rfl,fun V hV=>by (have hv1:=hV.cell (uh HCR) (by simp);go_simp)⟩))
   refine tq 7 27 (.binOp .eql 45 (.tmp 22) (.tmp 26) 45) ((.bool false)) (zaa (zac W1 none)) ?_
   (try simp only[pq])
   refine tq 8 28 (.move (.tmp 27)) ((.bool false)) (zaa (zac W1 none)) ?_
   refine tz 9 29 (.fieldAddr 106 (.tmp 3) 0) undef (zaa (zac W1 none)) ?_ (y:=(Or.inr ⟨by rfl,rfl⟩))
   refine tz 10 30 (.fieldAddr 104 (.tmp 29) 0) undef (zaa (zac W1 none)) ?_ (y:=(Or.inr ⟨by rfl,rfl⟩))
   refine tz 11 31 (.load 45 (.tmp 30)) undef (zaa (zac W1 none)) ?_ (y:=(Or.inr ⟨by rfl,rfl⟩))
   (try simp only[pq])
   refine tz 12 32 (.move (.tmp 0)) undef (zaa (zac W1 none)) ?_ (y:=(Or.inr ⟨by rfl,rfl⟩))
   refine tz 13 33 (.nilCheck (.tmp 32)) undef (zaa (zac W1 none)) ?_ (y:=(Or.inr ⟨by rfl,rfl⟩))
   refine tz 14 34 (.fieldAddr 69 (.tmp 33) 3) undef (zaa (zac W1 none)) ?_ (y:=(Or.inr ⟨by rfl,rfl⟩))
   refine tz 15 35 (.load 45 (.tmp 34)) undef (zaa (zac W1 none)) ?_ (y:=(Or.inr ⟨by rfl,rfl⟩))
   (try simp only[pq])
   refine tz 16 36 (.binOp .eql 45 (.tmp 31) (.tmp 35) 45) undef (zaa (zac W1 none)) ?_ (y:=(Or.inr ⟨by rfl,rfl⟩))
   refine tq 17 37 (.pick (.tmp 28) (.tmp 36) (.const (.bool false))) ((.bool false)) (zaa (zac W1 none)) ?_
   refine tq 18 4 (.assign (.tmp 37)) ((.bool false)) (zaa (zac W1 none)) ?_
   (try simp only[pq])
   refine wpAnyH_done (by kernel_rfl) ?_ _
   refine NoPanic.normal ?_
   go_wp2
   go_ret
   exact ⟨rfl,zaa (uh HG1)⟩
set_option maxHeartbeats 4000000 in
theorem zk8 (w:World) (q f e p g r m G N z:Nat) (sl:List UInt8) (X:Value) (hb:Blk w q 69 (hfC f e p g r m)) (hz:z<4294967296) (hp:p<4611686018427387904) (hr:r+1<18446744073709551616)
  (GG:List Nat) (V:List (List UInt8 × List UInt8)) (hv:VmW w m GG V) (ao:Option Addr) (ac:Nat) (L:List ChI) (h:CsG w ao ac L [m,q]) (hl:L.length≤1000000) (hk:∀ x∈L,x.key.length≤100000∧x.val.length≤1000000) (hG:∀ x∈GG,x<w.heap.size) (hqG:q∈GG) :
  Calls Tryz.prog 56 #[.pointer (some ⟨q,0,none⟩),.agg (rcC G N z sl X).toArray,.slice ao L.length ac] w fun r' w'=>r' = .returned (.tuple #[])∧Blk w' q 69 (hfC f e (p+(1+secN z)) G (r+1) m)∧VmW w' m GG (zal V (L.map ChI.chg))∧Fr w w' [q,m]:=by
 obtain ⟨R,hR⟩:∃ R,R=rcC G N z sl X:=⟨_,rfl⟩
 rw[← hR]
 obtain ⟨W1,hW1,hB1,g1⟩:=zah w 106 R
 have hb1:=hb.kept g1 (by simp)
 have hql:q<w.heap.size:=hb.lt
 obtain ⟨W2,hW2⟩:∃ W,W=W1.setCell ⟨q,3,none⟩ (.int .u64 (G:Int)):=⟨_,rfl⟩
 have hb2:Blk W2 q 69 (hfC f e p G r m):=by rw[hW2];exact hb1.set 3 _
 obtain ⟨W3,hW3⟩:∃ W,W=W2.setCell ⟨q,4,none⟩ (.int .u64 ((r:Int)+1)):=⟨_,rfl⟩
 have hb3:Blk W3 q 69 (hfC f e p G (r+1) m):=by rw[hW3];exact hb2.set 4 _
 obtain ⟨n,hn⟩:∃ n,n=1+secN z:=⟨_,rfl⟩
 have cs:=fun V=>ze1 V z (by omega)
 rw[← hn] at cs ⊢
 have hnb:n≤4294967296:=by rw[hn];unfold secN;omega
 obtain ⟨p2,hp2⟩:∃ p2,p2=p+n:=⟨_,rfl⟩
 rw[← hp2]
 obtain ⟨W4,hW4⟩:∃ W,W=(W3.setCell ⟨q,2,none⟩ (.int .i64 (p2:Int))).drew:=⟨_,rfl⟩
 have hb4:Blk W4 q 69 (hfC f e p2 G (r+1) m):=by
  rw[hW4]
  exact (show Blk (W3.setCell ⟨q,2,none⟩ (.int .i64 (p2:Int))) q 69 (hfC f e p2 G (r+1) m) from hb3.set 2 _).kept (zaa (zac _ none)) (by simp)
 have fr3:Fr w W3 [q]:=by
  have a1:W1.grownBy W2 (some q):=by rw[hW2];exact zam (zac _ _) _ _ (Or.inr rfl)
  have a2:W2.grownBy W3 (some q):=by rw[hW3];exact zam (zac _ _) _ _ (Or.inr rfl)
  exact ((Fr.none g1 [q]).then a1 (fun x e=>by cases e;exact Or.inl (by simp))).then a2 (fun x e=>by cases e;exact Or.inl (by simp))
 have fr4:Fr w W4 [q]:=by
  rw[hW4]
  exact (fr3.then (zam (zac _ (some q)) _ _ (Or.inr rfl)) (fun x e=>by cases e;exact Or.inl (by simp))).then (zaa (zac _ none)) (fun x e=>by cases e)
 have hb13:Blk W3 w.heap.size 106 R:=by
  have a1:W1.grownBy W2 (some q):=by rw[hW2];exact zam (zac _ _) _ _ (Or.inr rfl)
  have a2:W2.grownBy W3 (some q):=by rw[hW3];exact zam (zac _ _) _ _ (Or.inr rfl)
  exact (hB1.kept a1 (by intro e;injection e;omega)).kept a2 (by intro e;injection e;omega)
 have hmq:m∉[q]:=by
  obtain ⟨A,clk,hm,_⟩:=hv.clone
  simp only[List.mem_cons,List.not_mem_nil,or_false]
  intro e
  have hb' : w.heap[q]? = _:=hb
  rw[e,hb'] at hm
  cases hm
 have hv4:VmW W4 m GG V:=hv.fr fr4 hmq (fun x hx=>by simp at hx;rw[hx];exact hqG)
 have h4:CsG W4 ao ac L [m,q]:=h.fr fr4 (fun x hx=>by simp at hx;simp[hx])
 have cc:=zhh W4 m GG V hv4 ao ac L ⟨h4.is,fun ad e hl hf=>h4.row ad e hl (by simp at hf;simp[hf]),fun x hx ad e hl hf=>h4.val x hx ad e hl (by simp at hf;simp[hf])⟩ hl hk (fun x hx=>Nat.lt_of_lt_of_le (hG x hx) fr4.size)
 have hc0:W1.cell? ⟨w.heap.size,0,none⟩=some (.int .u64 (G:Int)):=by rw[hB1.cell 0,hR];rfl
 have hcz:W3.cell? ⟨w.heap.size,2,none⟩=some (.int .u64 (z:Int)):=by rw[hb13.cell 2,hR];rfl
 have hcr:W2.cell? ⟨q,4,none⟩=some (.int .u64 (r:Int)):=by rw[hb2.cell 4];rfl
 have hc2:W3.cell? ⟨q,2,none⟩=some (.int .i64 (p:Int)):=by rw[hb3.cell 2];rfl
 have hcm:W4.cell? ⟨q,5,none⟩=some (.map (some m)):=by rw[hb4.cell 5];rfl
 have hf1:=hb1.fz 3
 have hf2:=hb2.fz 4
 have hf3:=hb3.fz 2
 have hc31:W1.cell? ⟨q,3,none⟩=some (.int .u64 (g:Int)):=by rw[hb1.cell 3];rfl
 have hrw:IntKind.u64.wrap ((r:Int)+1)=(r:Int)+1:=by rw[IntKind.wrap_u64];omega
 have HP2:=hide (show IntKind.i64.wrap ((p:Int)+(n:Int))=(p2:Int) by rw[IntKind.wrap_i64];omega)
 obtain ⟨HW1,HW2,HW3,HW4⟩:=zh4 hW1 hW2 hW3 hW4
 have HC2:=hide (show W3.drew.cell? ⟨q,2,none⟩=some (.int .i64 (p:Int)) from hc2)
 have HF2:=hide (show W3.drew.frozen? ⟨q,2,none⟩=false from hf3)
 have HWQ:=hide (show ¬ w.heap.size=q by omega)
 obtain ⟨HCZ,HCS,HB4,HFR⟩:=zh4 hcz cs hb4 fr4
 have hmq2:m≠q:=by simpa using hmq
 have HMQ:=hide hmq2
 have HS3:=hide (show W3.grownBy (W3.drew.setCell ⟨q,2,none⟩ (.int .i64 (p2:Int))) (some q) from zam (zav (some q) (zaa (zac W3 none))) _ _ (Or.inr rfl))
 clear hR hW1 hB1 g1 hb1 hb2 hW2 hW3 hW4 hb3 hb4 hn cs hnb hp2 fr3 fr4 hb13 hmq hmq2 hv4 h4 hb  hql hz hp hr hv h hl hk hG hqG hc2 hcz
 go_enter Tryz.func56,Tryz.ntmps56
 go_upto_region 3 with (first
  | (rw[← uh HW1])
  | (rw[← uh HW2])
  | (rw[← uh HW3]))
 refine wp_region_noPanic ?_
 refine wp_region_held_drew (S:=fun V=>W3.grownBy V (some q)) (by kernel_rfl) (zav (some q) (zaa (zac W3 none))) (fun _ => ?_)
 refine tq 0 19 (.move (.tmp 0)) ((.pointer (some ⟨q,0,none⟩))) (zav (some q) (zaa (zac W3 none))) ?_
 refine tq 1 20 (.nilCheck (.tmp 19)) ((.pointer (some ⟨q,0,none⟩))) (zav (some q) (zaa (zac W3 none))) ?_
 refine tq 2 21 (.fieldAddr 69 (.tmp 20) 2) ((.pointer (some ⟨q,2,none⟩))) (zav (some q) (zaa (zac W3 none))) ?_
 refine tq 4 23 (.fieldAddr 106 (.tmp 4) 0) ((.pointer (some ⟨w.heap.size,0,none⟩))) (zav (some q) (zaa (zac W3 none))) ?_
 (try simp only[pq])
 refine tq 5 24 (.fieldAddr 104 (.tmp 23) 2) ((.pointer (some ⟨w.heap.size,2,none⟩))) (zav (some q) (zaa (zac W3 none))) ?_
 refine tz 6 25 (.load 45 (.tmp 24)) ((.int .u64 (z:Int))) (zav (some q) (zaa (zac W3 none))) ?_ (y:=(Or.inl ⟨by rfl,fun V hV=>by (have hv1:=hV.cell (uh HCZ) (by simpa using uh HWQ);go_simp)⟩))
 (try simp only[pq])
 refine wpAnyH_ready (rs:=[3,7]) (by kernel_rfl) (by simp) ?_
 refine AllReadyH.cons (o:=⟨some 22,.load 3 (.tmp 21),_,_,_,_⟩) rfl (fun K9 hK9 => ?_) (AllReadyH.cons (o:=⟨some 26,.call { callee := .value (.func 61),args := #[(.tmp 25)],argTypes := #[45] },_,_,_,_⟩) rfl (fun K9 hK9 => ?_) AllReadyH.nil)
 ·have hv1:=uh HC2
  go_simp
  refine hK9.out _ _ (zav (some q) (zaa (zac W3 none))) (fun _ => ?_)
  clear hK9 K9
  (try simp only[pq])
  refine rdq 7 (some 26) (.call { callee := .value (.func 61),args := #[(.tmp 25)],argTypes := #[45] }) (fun K9 hK9 => ?_)
  go_simp
  go_at_call 61
  refine (uh HCS _).mono ?_
  rintro e wS ⟨rfl,hwS⟩
  have hwS2:=hwS.symm
  clear hwS
  subst hwS2
  go_wp2_with fail
  refine hK9.out _ _ (zav (some q) (zaa (zac W3 none))) (fun _ => ?_)
  clear hK9 K9
  refine tz 8 27 (.binOp .add 3 (.tmp 22) (.tmp 26) 3) ((.int .i64 (p2:Int))) (zav (some q) (zaa (zac W3 none))) ?_ (y:=(Or.inl ⟨by rfl,fun V hV=>by (have hv0:=uh HP2;go_simp)⟩))
  refine tq 9 28 (.nilCheck (.tmp 19)) ((.pointer (some ⟨q,0,none⟩))) (zav (some q) (zaa (zac W3 none))) ?_
  refine tq 10 29 (.fieldAddr 69 (.tmp 28) 2) ((.pointer (some ⟨q,2,none⟩))) (zav (some q) (zaa (zac W3 none))) ?_
  (try simp only[pq])
  refine rdq 11 none (.store 3 (.tmp 29) (.tmp 27)) (fun K9 hK9 => ?_)
  have hv1:=uh HC2
  have hv2:=uh HF2
  go_simp
  refine hK9.out _ _ (uh HS3) (fun _ => ?_)
  clear hK9 K9
  (try simp only[Act.put])
  refine wpAnyH_done (by kernel_rfl) ?_ _
  refine NoPanic.normal ?_
  rw[← uh HW4]
  go_wp2_with (go_at_call 76;refine cc.mono ?_;rintro e w5 ⟨rfl,hv5,fr5⟩;have HV5:=hide hv5;have HF5:=hide fr5;clear cc hv5 fr5)
  go_end0
  exact ⟨rfl,(uh HF5).blk (uh HB4) (by simp;exact fun e=>uh HMQ e.symm),uh HV5,((uh HFR).more (G:=[q,m]) (fun x hx=>Or.inl (by simp at hx;simp[hx]))).trans (uh HF5) (fun x hx=>Or.inl (by simp at hx;simp[hx]))⟩
 ·go_simp
  go_at_call 61
  refine (uh HCS _).mono ?_
  rintro e wS ⟨rfl,hwS⟩
  have hwS2:=hwS.symm
  clear hwS
  subst hwS2
  go_wp2_with fail
  refine hK9.out _ _ (zav (some q) (zaa (zac W3 none))) (fun _ => ?_)
  clear hK9 K9
  (try simp only[pq])
  refine rdq 3 (some 22) (.load 3 (.tmp 21)) (fun K9 hK9 => ?_)
  have hv1:=uh HC2
  go_simp
  refine hK9.out _ _ (zav (some q) (zaa (zac W3 none))) (fun _ => ?_)
  clear hK9 K9
  refine tz 8 27 (.binOp .add 3 (.tmp 22) (.tmp 26) 3) ((.int .i64 (p2:Int))) (zav (some q) (zaa (zac W3 none))) ?_ (y:=(Or.inl ⟨by rfl,fun V hV=>by (have hv0:=uh HP2;go_simp)⟩))
  refine tq 9 28 (.nilCheck (.tmp 19)) ((.pointer (some ⟨q,0,none⟩))) (zav (some q) (zaa (zac W3 none))) ?_
  refine tq 10 29 (.fieldAddr 69 (.tmp 28) 2) ((.pointer (some ⟨q,2,none⟩))) (zav (some q) (zaa (zac W3 none))) ?_
  (try simp only[pq])
  refine rdq 11 none (.store 3 (.tmp 29) (.tmp 27)) (fun K9 hK9 => ?_)
  have hv1:=uh HC2
  have hv2:=uh HF2
  go_simp
  refine hK9.out _ _ (uh HS3) (fun _ => ?_)
  clear hK9 K9
  (try simp only[Act.put])
  refine wpAnyH_done (by kernel_rfl) ?_ _
  refine NoPanic.normal ?_
  rw[← uh HW4]
  go_wp2_with (go_at_call 76;refine cc.mono ?_;rintro e w5 ⟨rfl,hv5,fr5⟩;have HV5:=hide hv5;have HF5:=hide fr5;clear cc hv5 fr5)
  go_end0
  exact ⟨rfl,(uh HF5).blk (uh HB4) (by simp;exact fun e=>uh HMQ e.symm),uh HV5,((uh HFR).more (G:=[q,m]) (fun x hx=>Or.inl (by simp at hx;simp[hx]))).trans (uh HF5) (fun x hx=>Or.inl (by simp at hx;simp[hx]))⟩
end Go.Proofs.YtoilcpdhhlcidaaGreatDoor
