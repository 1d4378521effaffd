/- Lemmas. -/
import Derived.Test.YtoilcpdhhlcidaaGreatDoorRStA
import Derived.Test.YtoilcpdhhlcidaaGreatDoorMOwn
import Derived.Test.YtoilcpdhhlcidaaGreatDoorMSame
import Derived.Deep.DeepCutAuto
import Derived.Deep.CutBlock
import Derived.Test.YtoilcpdhhlcidaaGreatDoorMTk
namespace Go.Proofs.YtoilcpdhhlcidaaGreatDoor
open Go.RowKit
def kyC (V:List (List UInt8 × List UInt8)):List Value:=V.map fun y => .string (str y.1)
def vlC (V:List (List UInt8 × List UInt8)):List Value:=V.map fun y => .string (str y.2)
def rsC (ko:Option Addr) (kc:Nat) (vo:Option Addr) (vc:Nat) (s:RSt):List Value:=[.slice ko s.V.length kc,.slice vo s.V.length vc,.int .i64 (s.half:Int),.int .i64 (s.used:Int),.int .i64 (s.moves:Int)]
structure RsW (w:World) (ko:Option Addr) (kc:Nat) (vo:Option Addr) (vc:Nat) (s:RSt):Prop where
 keys:Cel w ko kc (kyC s.V)
 vals:Cel w vo vc (vlC s.V)
theorem RsW.kept {w a:World} {ko:Option Addr} {kc:Nat} {vo:Option Addr} {vc:Nat} {s:RSt} (h:RsW w ko kc vo vc s) (g:w.grownBy a none):RsW a ko kc vo vc s:=⟨h.keys.kept g,h.vals.kept g⟩
structure ChI where
 key:List UInt8
 bo:Option Addr
 bc:Nat
 val:List UInt8
 gone:Bool
deriving Inhabited
def ciC (x:ChI):List Value:=[.string (str x.key),.slice x.bo x.val.length x.bc,.bool x.gone]
def ChI.chg (x:ChI):Chg:=⟨x.key,x.val,x.gone⟩
structure RwO {α:Type} (w:World) (K:Nat) (f:α→List Value) (ao:Option Addr) (c:Nat) (L:List α):Prop where
 zip:ao=none→L.length=0∧c=0
 fits:L.length≤c
 most:c≤maxLen
 spot:∀ ad,ao=some ad→0<L.length→ad.spot=none
 row:∀ ad,ao=some ad→∀ i (h:i<L.length),w.rangeAt ad.block (ad.off+i*K) (f L[i])
theorem RwO.kept {α:Type} {w a:World} {K:Nat} {f:α→List Value} {ao:Option Addr} {c:Nat} {L:List α} (h:RwO w K f ao c L) (g:w.grownBy a none):RwO a K f ao c L :=
 ⟨h.zip,h.fits,h.most,h.spot,fun ad e i hi=>zak (h.row ad e i hi) g (by simp)⟩
theorem RwO.at {α:Type} {w:World} {K:Nat} {f:α→List Value} {ao:Option Addr} {c:Nat} {L:List α} (h:RwO w K f ao c L) (i:Nat) (hi:i<L.length):∃ b o,ao=some ⟨b,o,none⟩∧w.rangeAt b (o+i*K) (f L[i]):=by
 cases ao with
 | none=>have:=(h.zip rfl).1;omega
 | some ad =>
   have hs:=h.spot ad rfl (by omega)
   have hc:=h.row ad rfl i hi
   obtain ⟨b,o,s⟩:=ad
   simp only at hs hc
   subst hs
   exact ⟨b,o,rfl,hc⟩
theorem Rws.o {α:Type} {w:World} {K:Nat} {f:α→List Value} {ao:Option Addr} {c:Nat} {L:List α} (h:Rws w K f ao c L):RwO w K f ao c L:=⟨h.zip,h.fits,h.most,fun ad e _=>h.spot ad e,h.row⟩
instance {α:Type} {w:World} {K:Nat} {f:α→List Value} {ao:Option Addr} {c:Nat} {L:List α} : Coe (Rws w K f ao c L) (RwO w K f ao c L):=⟨Rws.o⟩
structure CsI (w:World) (ao:Option Addr) (c:Nat) (L:List ChI):Prop where
 row:RwO w 3 ciC ao c L
 val:∀ x∈L,Bts w x.bo x.bc x.val
theorem CsI.kept {w a:World} {ao:Option Addr} {c:Nat} {L:List ChI} (h:CsI w ao c L) (g:w.grownBy a none):CsI a ao c L:=⟨h.row.kept g,fun x hx=>(h.val x hx).kept g (fun _ e=>by cases e)⟩
def smx (x:ChI):Nat:=10+min x.key.length 9000+min x.val.length 9000
def smL (L:List ChI):Nat:=(L.map smx).sum
theorem zof (L:List ChI) (x:ChI):smL (L++[x])=smL L+smx x:=by simp[smL]
theorem zps (L:List ChI):10*L.length≤smL L:=by
 induction L with
 | nil=>simp[smL]
 | cons x L ih =>
   have:smL (x::L)=smx x+smL L:=by simp[smL]
   rw[this,List.length_cons]
   unfold smx
   omega
def zqm (w w' : World) (e:Ending) (L:List ChI):Prop:=∃ b,e = .returned (.bool b)∧w.grownBy w' none∧(b=true→smL L≤8000)
set_option maxRecDepth 100000 in
set_option maxHeartbeats 8000000 in
theorem zkx (w:World) (ao:Option Addr) (ac:Nat) (L:List ChI) (h:CsI w ao ac L) :
  Calls Tryz.prog 12 #[.slice ao L.length ac] w fun e w'=>zqm w w' e L:=by
 obtain ⟨n,hn⟩:∃ n,n=L.length:=⟨_,rfl⟩
 rw[← hn]
 obtain ⟨HN,H⟩:=zh2 hn h
 have hn1:n≤9223372036854775807:=by have h1:=h.row.fits;have h2:=h.row.most;unfold maxLen at h2;omega
 clear hn h
 go_enter Tryz.func12,Tryz.ntmps12
 go_wp2
 go_loopw [3,4] (fun v i wr=>∃ j t:Nat,i = .int .i64 j∧j≤n∧v = .int .i64 (t:Int)∧t≤8000∧Hid (t=smL (L.take j)∧w.grownBy wr none)) (fun _ i _=>n - (intOf i).toNat)
 case atStart=>exact ⟨0,0,rfl,Nat.zero_le _,rfl,Nat.zero_le _,rfl,zaa _ _⟩
 case round =>
  obtain ⟨j,t,rfl,hj,rfl,ht,HJ⟩:=hrel
  by_cases hlt:j<n
  ·have hji:(j:Int)<(n:Int):=by omega
   have hjw:IntKind.i64.wrap ((j:Int)+1)=(j:Int)+1:=by rw[IntKind.wrap_i64];omega
   have hjl:j<L.length:=by rw[← uh HN];exact hlt
   obtain ⟨b,o,hao,hrow⟩:=(uh H).row.at j hjl
   obtain ⟨x,hx⟩:∃ x,x=L[j]:=⟨_,rfl⟩
   rw[← hx] at hrow
   obtain ⟨TK,hTK⟩:∃ T,T=str x.key:=⟨_,rfl⟩
   obtain ⟨nk,hnk⟩:∃ n,n=x.key.length:=⟨_,rfl⟩
   obtain ⟨nv,hnv⟩:∃ n,n=x.val.length:=⟨_,rfl⟩
   obtain ⟨mk,hmk⟩:∃ n,n=min nk 9000:=⟨_,rfl⟩
   obtain ⟨mv,hmv⟩:∃ n,n=min nv 9000:=⟨_,rfl⟩
   obtain ⟨t3,ht3⟩:∃ n,n=t+10+mk+mv:=⟨_,rfl⟩
   obtain ⟨z1,hz1⟩:∃ z:Int,z=(t:Int)+10:=⟨_,rfl⟩
   obtain ⟨z2,hz2⟩:∃ z:Int,z=z1+(mk:Int):=⟨_,rfl⟩
   have q0:w.cell? ⟨b,o+j*3,none⟩=some (.string TK):=by have:=hrow 0 _ rfl;rw[hTK];simpa using this
   have q1:w.cell? ⟨b,o+j*3+1,none⟩=some (.slice x.bo nv x.bc):=by have:=hrow 1 _ rfl;rw[hnv];exact this
   have hw1:IntKind.i64.wrap ((t:Int)+10)=z1:=by rw[hz1,IntKind.wrap_i64];omega
   have hw2:IntKind.i64.wrap (z1+(mk:Int))=z2:=by rw[hz2,hz1,IntKind.wrap_i64];omega
   have hw3:IntKind.i64.wrap (z2+(mv:Int))=(t3:Int):=by rw[hz2,hz1,ht3,IntKind.wrap_i64];omega
   have hm1:∀ ts ty (V:World),(Builtin.min_ ts ty #[.int .i64 (nk:Int),.int .i64 9000]).run Tryz.prog V = .ok (.int .i64 (mk:Int)) V:=fun ts ty V=>by rw[run_min_int2];congr 2;split <;> omega
   have hm2:∀ ts ty (V:World),(Builtin.min_ ts ty #[.int .i64 (nv:Int),.int .i64 9000]).run Tryz.prog V = .ok (.int .i64 (mv:Int)) V:=fun ts ty V=>by rw[run_min_int2];congr 2;split <;> omega
   have hks:TK.size=nk:=by rw[hTK,zby,hnk]
   have hta:smL (L.take (j+1))=t3:=by
    rw[List.take_succ_eq_append_getElem hjl,zof,← (uh HJ).1,← hx]
    unfold smx
    rw[← hnk,← hnv]
    omega
   obtain ⟨HTA,HK,HV,HW1,HW2,HW3⟩:=zh6 hta q0 q1 hw1 hw2 hw3
   obtain ⟨HM1,HM2,HKS⟩:=zh3 hm1 hm2 hks
   have HG:=hide (uh HJ).2
   have hb3:t3≤30000:=by omega
   clear hrow hx hTK hnk hnv hmk hmv ht3 hz1 hz2 q0 q1 hw1 hw2 hw3 hm1 hm2 hks hta HJ hjl
   subst hao
   go_upto_region 5 with fail
   refine wp_region_noPanic ?_
   refine wp_region_held_drew (S:=fun V=>w.grownBy V none) (by kernel_rfl) (zab (uh HG)) (fun _ => ?_)
   refine tq 0 11 (.move (.tmp 3)) ((.int .i64 (t:Int))) (zab (uh HG)) ?_
   refine tz 1 12 (.binOp .add 3 (.tmp 11) (.const (.int .i64 10)) 3) ((.int .i64 z1)) (zab (uh HG)) ?_ (y:=(Or.inl ⟨by rfl,fun V hV=>by (have hv1:=uh HW1;go_simp)⟩))
   refine tq 2 13 (.move (.tmp 0)) ((.slice (some ⟨b,o,none⟩) n ac)) (zab (uh HG)) ?_
   refine tq 3 14 (.move (.tmp 4)) ((.int .i64 (j:Int))) (zab (uh HG)) ?_
   (try simp only[pq])
   refine tq 4 15 (.indexAddr 34 (.tmp 13) (.tmp 14)) ((.pointer (some ⟨b,o+j*3,none⟩))) (zab (uh HG)) ?_
   refine tq 5 16 (.fieldAddr 55 (.tmp 15) 0) ((.pointer (some ⟨b,o+j*3,none⟩))) (zab (uh HG)) ?_
   refine tz 6 17 (.load 9 (.tmp 16)) ((.string TK)) (zab (uh HG)) ?_ (y:=(Or.inl ⟨by rfl,fun V hV=>by (have hv1:=hV.cell (uh HK) (by simp);go_simp)⟩))
   refine tz 7 18 (.call { callee := .builtin .len,args := #[(.tmp 17)],argTypes := #[9] }) ((.int .i64 (nk:Int))) (zab (uh HG)) ?_ (y:=(Or.inl ⟨by rfl,fun V hV=>by (have hv1:=uh HKS;go_simp)⟩))
   (try simp only[pq])
   refine tz 8 19 (.call { callee := .builtin .min,args := #[(.tmp 18),.const (.int .i64 9000)],argTypes := #[3,3] }) ((.int .i64 (mk:Int))) (zab (uh HG)) ?_ (y:=(Or.inl ⟨by rfl,fun V hV=>by (have hv1:=uh HM1;go_simp)⟩))
   refine tz 9 20 (.binOp .add 3 (.tmp 12) (.tmp 19) 3) ((.int .i64 z2)) (zab (uh HG)) ?_ (y:=(Or.inl ⟨by rfl,fun V hV=>by (have hv1:=uh HW2;go_simp)⟩))
   refine tq 10 21 (.move (.tmp 0)) ((.slice (some ⟨b,o,none⟩) n ac)) (zab (uh HG)) ?_
   refine tq 11 22 (.move (.tmp 4)) ((.int .i64 (j:Int))) (zab (uh HG)) ?_
   (try simp only[pq])
   refine tq 12 23 (.indexAddr 34 (.tmp 21) (.tmp 22)) ((.pointer (some ⟨b,o+j*3,none⟩))) (zab (uh HG)) ?_
   refine tq 13 24 (.fieldAddr 55 (.tmp 23) 1) ((.pointer (some ⟨b,o+j*3+1,none⟩))) (zab (uh HG)) ?_
   refine tz 14 25 (.load 53 (.tmp 24)) ((.slice x.bo nv x.bc)) (zab (uh HG)) ?_ (y:=(Or.inl ⟨by rfl,fun V hV=>by (have hv1:=hV.cell (uh HV) (by simp);go_simp)⟩))
   refine tq 15 26 (.call { callee := .builtin .len,args := #[(.tmp 25)],argTypes := #[53] }) ((.int .i64 (nv:Int))) (zab (uh HG)) ?_
   (try simp only[pq])
   refine tz 16 27 (.call { callee := .builtin .min,args := #[(.tmp 26),.const (.int .i64 9000)],argTypes := #[3,3] }) ((.int .i64 (mv:Int))) (zab (uh HG)) ?_ (y:=(Or.inl ⟨by rfl,fun V hV=>by (have hv1:=uh HM2;go_simp)⟩))
   refine tz 17 28 (.binOp .add 3 (.tmp 20) (.tmp 27) 3) ((.int .i64 (t3:Int))) (zab (uh HG)) ?_ (y:=(Or.inl ⟨by rfl,fun V hV=>by (have hv1:=uh HW3;go_simp)⟩))
   refine tq 18 3 (.assign (.tmp 28)) ((.int .i64 (t3:Int))) (zab (uh HG)) ?_
   (try simp only[pq])
   refine wpAnyH_done (by kernel_rfl) ?_ _
   refine NoPanic.normal ?_
   by_cases h8:8000<t3
   ·have h8i:(8000:Int)<(t3:Int):=by omega
    clear HTA
    go_wp2
    go_ret
    exact ⟨false,rfl,zab (uh HG),fun e=>by cases e⟩
   ·have h8i:¬ (8000:Int)<(t3:Int):=by omega
    go_wp2
    go_roundw
    case rel=>exact ⟨j+1,t3,by go_num,by omega,rfl,by omega,(uh HTA).symm,zab (uh HG)⟩
    case measure=>simp[intOf];omega
  ·have hji:¬ (j:Int)<(n:Int):=by omega
   have hall:L.take j=L:=List.take_of_length_le (by have:=uh HN;omega)
   have hfin:smL L≤8000:=by have:=(uh HJ).1;rw[hall] at this;omega
   have HF:=hide (And.intro hfin (uh HJ).2)
   clear hall hfin HJ
   go_wp2
   go_ret
   exact ⟨true,rfl,(uh HF).2,fun _=>(uh HF).1⟩
end Go.Proofs.YtoilcpdhhlcidaaGreatDoor
