/- Lemmas. -/
import Derived.RangeFuncNested
import Derived.RangeFuncBound
import Derived.RangeFuncCalls
import Derived.RangeFuncLeaves
import Derived.RangeFuncBox
import Derived.RangeFuncFrom
import Derived.Shelf.Abstract
import Derived.Shelf.RegionOpen
import Derived.WalkKit
import Derived.OwnWalkIn
import Derived.TacticsInMore
import Derived.LoopNIn
import Derived.LoopIn
import Derived.Test.YtoilcpdhhlcidaaGreatDoorSpW
namespace Go.Proofs.YtoilcpdhhlcidaaGreatDoor
open Go.RowKit Go.Shelf
set_option maxRecDepth 100000
attribute [local go_sem] Oper.semAt_some
def prL (n k:Nat):Nat:=min 255 (n - 255*k)
def prV (b o n k:Nat):Value := .slice (some ⟨b,o+255*k,none⟩) (prL n k) (prL n k)
theorem zha {P:Program} (W:World) (t e:TypeId) (ht:P.underlying t=some (.slice e)) (hz:∀ w,(Go.sizeOf e).run P w = .ok 1 w) (b o n c i k:Nat) (hk:0<k) (hi:i+k≤n) (hc:n≤c) :
  (Instr.slice t (.slice (some ⟨b,o,none⟩) n c) (some (.int .i64 (i:Int))) (some (.int .i64 ((i+k:Nat):Int))) (some (.int .i64 ((i+k:Nat):Int)))).run P W = .ok (.slice (some ⟨b,o+i,none⟩) k k) W:=by
 have ht' : P.underlying t=some (.slice (P.elem t)):=by simp[Program.elem,ht]
 have he:P.elem t=e:=by simp[Program.elem,ht]
 rw[run_slice_lhm W t _ _ _ ht' .i64 .i64 .i64 _ _ _ (by omega) (by omega) (by omega) (by omega),he,hz]
 simp only[Result.andThen_ok,sliced,Int.toNat_natCast,Nat.mul_one,Option.map_some]
 rw[if_neg (by omega),Addr.add_lit,show i+k - i=k by omega]
def KpB (p q:Nat) (W W' : World):Prop:=(∀ j,W'.cell? ⟨p,j,none⟩=W.cell? ⟨p,j,none⟩)∧∀ j,W'.cell? ⟨q,j,none⟩=W.cell? ⟨q,j,none⟩
theorem KpB.refl (p q:Nat) (W:World):KpB p q W W:=⟨fun _=>rfl,fun _=>rfl⟩
theorem KpB.trans {p q:Nat} {A B C:World} (h:KpB p q A B) (k:KpB p q B C):KpB p q A C:=⟨fun j=>(k.1 j).trans (h.1 j),fun j=>(k.2 j).trans (h.2 j)⟩
theorem KpB.dN (p q:Nat) (W:World) (k:Nat):KpB p q W (W.drewN k):=⟨fun _=>rfl,fun _=>rfl⟩
set_option maxHeartbeats 2000000 in
theorem zn6 (F:Fence) (m:Nat) (hf:F.fn 111) (hro:F.round=none) (hm:1≤m) (l Bs Bn b o n c N:Nat) (hN:N=secN n) (hn:0<n) (hnc:n≤c) (hn4:n<4294967296) (J Jx:List {k:Nat // k<N}→World→Prop) (hJd:∀ pre W k,J pre W→J pre (W.drewN k))
  (hY:∀ pre x W,J pre W→pre.length<N→YieldAt F (m - 1) Tryz.prog l #[prV b o n x.1] W fun e W' =>
   (e = .returned (.bool true)∧J (pre++[x]) W'∧KpB Bs Bn W W')∨(e = .returned (.bool false)∧Jx (pre++[x]) W'))
  (W:World) (hBs:W.cell? ⟨Bs,0,none⟩=some (.slice (some ⟨b,o,none⟩) n c)) (hBn:W.cell? ⟨Bn,0,none⟩=some (.int .i64 255)) (h0:J [] W) :
  CallsIn F m Tryz.prog 111 #[.func (.yield l) #[] #[],.pointer (some ⟨Bs,0,none⟩),.pointer (some ⟨Bn,0,none⟩)] W fun e W'=>(∃ v,e = .returned v) ∧
   ((∃ ys,ys.map (·.1)=List.range N∧J ys W')∨(∃ pre,True∧Jx pre W')):=by
 have hNn:N*255≤n+254∧n≤N*255:=by rw[hN];unfold secN;omega
 have HN:=hide hN
 clear hN
 refine callsIn_of_wp Tryz.func111 rfl hf ?_ hro
 simp only[Tryz.ntmps111,List.size_toArray,List.length_cons,List.length_nil,Nat.reduceAdd,Nat.reduceSub,Array.replicate_succ,Array.replicate_zero,List.push_toArray,List.append_toArray,List.nil_append,List.cons_append]
 gi_wp2
 gi_loopw [4] (fun i wr=>∃ (k:Nat) (pre:List {k:Nat // k<N}),k≤N∧i = .int .i64 ((255*k:Nat):Int)∧pre.map (·.1)=List.range k∧J pre wr∧KpB Bs Bn W wr)
  (fun i _=>n+300 - (intOf i).toNat)
 case atStart=>exact ⟨0,[],Nat.zero_le _,rfl,rfl,h0,KpB.refl _ _ _⟩
 case round =>
  obtain ⟨k,pre,hk,rfl,hpre,hJs,hnx⟩:=hrel
  have hc1:=(hnx.1 0).trans hBs
  have hc2:=(hnx.2 0).trans hBn
  obtain ⟨i,hi⟩:∃ i,i=255*k:=⟨_,rfl⟩
  rw[← hi]
  by_cases hlt:k<N
  ·have hin:i<n:=by omega
   have hdi:decide ((i:Int)<(n:Int))=true:=decide_eq_true (by omega)
   obtain ⟨q,hqq⟩:∃ q,q=n - i:=⟨_,rfl⟩
   have hq0:0<q:=by omega
   have hsf:∀ V,(Instr.slice 53 (.slice (some ⟨b,o,none⟩) n c) (some (.int .i64 (i:Int))) none none).run Tryz.prog V = .ok (.slice (cutA (some ⟨b,o,none⟩) c i) q (c - i)) V:=fun V=>by
    rw[hqq];exact zb1 (P:=Tryz.prog) V 53 5 Tryz.underlying53 (fun w=>by kernel_rfl) (some ⟨b,o,none⟩) n c i (by omega)
   have hw2:IntKind.i64.wrap ((i:Int)+255)=(i:Int)+255:=by rw[IntKind.wrap_i64];omega
   have HI1:=hide (show ((255*(k+1):Nat):Int)=(i:Int)+255 by omega)
   have HI:=hide (show i<n from hin)
   have HP:=hide hpre
   have HNX:=hide (show KpB Bs Bn W wr from hnx)
   have hpl:pre.length<N:=by have:=congrArg List.length hpre;simp at this;omega
   by_cases hqs:q<255
   ·have hqi:(q:Int)<255:=by omega
    have hpv:prV b o n k = .slice (some ⟨b,o+i,none⟩) q q:=by unfold prV prL;rw[← hi,show min 255 (n - i)=q by omega]
    have hs3:∀ V,(Instr.slice 53 (.slice (some ⟨b,o,none⟩) n c) (some (.int .i64 (i:Int))) (some (.int .i64 ((i:Int)+q))) (some (.int .i64 ((i:Int)+q)))).run Tryz.prog V = .ok (.slice (some ⟨b,o+i,none⟩) q q) V:=fun V=>by
     have:=zha (P:=Tryz.prog) V 53 5 Tryz.underlying53 (fun w=>by kernel_rfl) b o n c i q (by omega) (by omega) hnc
     simpa using this
    have hw1:IntKind.i64.wrap ((i:Int)+q)=(i:Int)+q:=by rw[IntKind.wrap_i64];omega
    clear hi hqq hNn hpre
    gi_wp2
    refine wpIn_region_quiet_lit hro (by kernel_rfl) (by kernel_rfl) ?_
    repeat (gi_big_quiet_step (fail))
    refine wpQuietIn_nil ?_
    intro _ hw'
    obtain ⟨nq,hw''⟩:=hw'
    subst hw''
    obtain ⟨fn,tmps,assign,body,hy,hR⟩:=hY pre ⟨k,hlt⟩ (wr.drewN nq) (hJd _ _ nq hJs) hpl
    rw[hpv] at hy
    all_goals
     gi_wp2
     refine hR.mono ?_
     rintro e2 W3 (⟨rfl,hJ3,hk3⟩ | ⟨rfl,hJx3⟩)
     ·have hc3:=(((uh HNX).trans (KpB.dN Bs Bn wr nq)).trans hk3).2 0 |>.trans hBn
      gi_wp2
      go_roundw
      case rel=>exact ⟨k+1,pre++[⟨k,hlt⟩],by omega,by rw[uh HI1],by rw[List.map_append,uh HP,List.range_succ];rfl,hJ3,((uh HNX).trans (KpB.dN Bs Bn wr nq)).trans hk3⟩
      case measure=>have:=uh HI;simp[intOf];omega
     ·gi_wp2
      refine bodyPost_ret (results_none rfl _ _ _) rfl ?_
      exact ⟨⟨_,rfl⟩,.inr ⟨_,trivial,hJx3⟩⟩
   ·have hqi:¬ (q:Int)<255:=by omega
    have hpv:prV b o n k = .slice (some ⟨b,o+i,none⟩) 255 255:=by unfold prV prL;rw[← hi,show min 255 (n - i)=255 by omega]
    have hs3:∀ V,(Instr.slice 53 (.slice (some ⟨b,o,none⟩) n c) (some (.int .i64 (i:Int))) (some (.int .i64 ((i:Int)+255))) (some (.int .i64 ((i:Int)+255)))).run Tryz.prog V = .ok (.slice (some ⟨b,o+i,none⟩) 255 255) V:=fun V=>by
     have:=zha (P:=Tryz.prog) V 53 5 Tryz.underlying53 (fun w=>by kernel_rfl) b o n c i 255 (by omega) (by omega) hnc
     simpa using this
    have hw1:IntKind.i64.wrap ((i:Int)+255)=(i:Int)+255:=by rw[IntKind.wrap_i64];omega
    clear hi hqq hNn hpre
    gi_wp2
    refine wpIn_region_quiet_lit hro (by kernel_rfl) (by kernel_rfl) ?_
    repeat (gi_big_quiet_step (fail))
    refine wpQuietIn_nil ?_
    intro _ hw'
    obtain ⟨nq,hw''⟩:=hw'
    subst hw''
    obtain ⟨fn,tmps,assign,body,hy,hR⟩:=hY pre ⟨k,hlt⟩ (wr.drewN nq) (hJd _ _ nq hJs) hpl
    rw[hpv] at hy
    all_goals
     gi_wp2
     refine hR.mono ?_
     rintro e2 W3 (⟨rfl,hJ3,hk3⟩ | ⟨rfl,hJx3⟩)
     ·have hc3:=(((uh HNX).trans (KpB.dN Bs Bn wr nq)).trans hk3).2 0 |>.trans hBn
      gi_wp2
      go_roundw
      case rel=>exact ⟨k+1,pre++[⟨k,hlt⟩],by omega,by rw[uh HI1],by rw[List.map_append,uh HP,List.range_succ];rfl,hJ3,((uh HNX).trans (KpB.dN Bs Bn wr nq)).trans hk3⟩
      case measure=>have:=uh HI;simp[intOf];omega
     ·gi_wp2
      refine bodyPost_ret (results_none rfl _ _ _) rfl ?_
      exact ⟨⟨_,rfl⟩,.inr ⟨_,trivial,hJx3⟩⟩
  ·obtain rfl:k=N:=by omega
   have hdi:decide ((i:Int)<(n:Int))=false:=decide_eq_false (by omega)
   gi_wp2
   go_end0
   exact ⟨⟨_,rfl⟩,.inl ⟨pre,hpre,hJs⟩⟩
theorem zsp (w:World) (k:Nat):w.grownBy (w.drewN k) none:=⟨rfl,rfl,rfl,Nat.le_refl _,fun _ _ _=>rfl⟩
theorem zjz (F:Fence) (m:Nat) (hf:F.fn 111) (hro:F.round=none) (hm:1≤m) (Bs Bn b o n c N:Nat) (hN:N=secN n) (hn:0<n) (hnc:n≤c) (hn4:n<4294967296) (w:World)
  (hBs:w.cell? ⟨Bs,0,none⟩=some (.slice (some ⟨b,o,none⟩) n c)) (hBn:w.cell? ⟨Bn,0,none⟩=some (.int .i64 255)) (h1:Bs<w.heap.size) (h2:Bn<w.heap.size) :
  SeqStopsK F m Tryz.prog 111 #[.pointer (some ⟨Bs,0,none⟩),.pointer (some ⟨Bn,0,none⟩)] (fun x : {k:Nat // k<N} => #[prV b o n x.1]) (KpB Bs Bn) (fun xs=>xs.map (·.1)=List.range N) (fun _=>True) N w :=
 fun l J Jx W hW hJ _ hY h0 =>
  zn6 F m hf hro hm l Bs Bn b o n c N hN hn hnc hn4 J Jx (fun pre W k h=>hJ _ _ _ none h (zsp W k) (fun _ e=>by cases e)) hY W ((hW.cell (p:=⟨Bs,0,none⟩) h1).trans hBs) ((hW.cell (p:=⟨Bn,0,none⟩) h2).trans hBn) h0
set_option maxHeartbeats 1000000 in
theorem zn7 (w:World) (ao:Option Addr) (n c:Nat) :
  Calls Tryz.prog 94 #[.slice ao n c,.int .i64 255] w fun e w'=>e = .returned (.func (.func 111) #[] #[.pointer (some ⟨w.heap.size,0,none⟩),.pointer (some ⟨w.heap.size+1,0,none⟩)]) ∧
   w'=(w.alloc (.cells #[.slice ao n c] 53)).alloc (.cells #[.int .i64 255] 3):=by
 go_enter Tryz.func94,Tryz.ntmps94
 go_wp2
 go_ret
 exact ⟨rfl,rfl⟩
end Go.Proofs.YtoilcpdhhlcidaaGreatDoor
