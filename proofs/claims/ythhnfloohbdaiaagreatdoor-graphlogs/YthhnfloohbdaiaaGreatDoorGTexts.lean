/- Lemmas. -/
import Derived.Test.YthhnfloohbdaiaaGreatDoorMRwG
import Derived.Test.YthhnfloohbdaiaaGreatDoorRGHas
import Derived.Laws.AppendOwnNone
import Derived.Deep.AppendLies
import Derived.Deep.RegionHeld3
import Derived.Deep.DrawnRows
import Derived.Test.YthhnfloohbdaiaaGreatDoorOApp
import Derived.Deep.DeepCutAuto
namespace Go.Proofs.YthhnfloohbdaiaaGreatDoor
open Go.RowKit
set_option maxRecDepth 100000
def stR (x:List UInt8):List Value:=[stv x]
theorem zkm (L:List (List UInt8)):L.flatMap stR=L.map stv:=by induction L <;> simp_all [stR]
theorem zxz (x:List UInt8):∀ u∈stR x,u.oneCell'=true:=by intro u hu;simp[stR] at hu;subst hu;rfl
theorem Stg.rws {w:World} {base:Nat} {v:Value} {L:List (List UInt8)} (h:Stg w base v L):∃ ao c,v = .slice ao L.length c∧Rws w 1 stR ao c L∧∀ ad,ao=some ad→base≤ad.block :=
 Rws.own stR (by rw[zkm];exact h) (fun _ _=>rfl)
theorem zbb {w:World} {ops:Array Oper} {o:Oper} {a:Act} {K:Act→World→Prop} {Q:Exit→Act→World→Prop} {E:Prop} (hw:Region.wanted o (yielded ops a.tmps)=true) (s x:Operand)
  (ho:o.op = .call { callee := .builtin .append,args := #[s,x],argTypes := #[25,25] })
  (base:Nat) (v:Value) (L M:List (List UInt8)) (hs:a.eval s=v) (hown:Stg w base v L) (xo:Option Addr) (m c:Nat) (hx:a.eval x = .slice xo m c) (hm:m=M.length) (hM:Rws w 1 stR xo c M) (hn:L.length+M.length≤1000000) (hbase:base≤w.heap.size)
  (h:∀ v' w',Stg w' base v' (L++M)→w.grownBy w' v.ownBlock→K (a.put o.dst v') w'):if Region.wanted o (yielded ops a.tmps)=true then Oper.wp Tryz.prog o a w K Q else E:=by
 rw[if_pos hw]
 obtain ⟨i0,hi,hz0,hz1,hz2⟩:=info_parts zkc
 exact zf8 s x 25 9 ho i0 (.string ⟨#[]⟩) 1 16 Tryz.underlying25 hi hz0 hz1 hz2 rfl (by decide) stR zxz base v L M (fun _ _=>rfl) hs (by rw[zkm];exact hown) xo m c hx hm hM (by omega) (by omega) hbase
  (fun v' w' q1 q2=>h v' w' (by rw[zkm] at q1;exact q1) q2)
theorem Rws.txt {w:World} {ao:Option Addr} {c:Nat} {L:List (List UInt8)} (h:Rws w 1 stR ao c L) (i:Nat) (hi:i<L.length):∃ b o,ao=some ⟨b,o,none⟩∧w.cell? ⟨b,o+i,none⟩=some (.string (str L[i])):=by
 obtain ⟨b,o,e,hr⟩:=h.at i hi
 refine ⟨b,o,e,?_⟩
 have:=hr 0 (.string (str L[i])) rfl
 simpa using this
theorem zjq (s:ByteArray) (V:World):(Instr.buildSlice 25 1 #[(0,.string s)]).run Tryz.prog V = .ok (.slice (some ⟨V.heap.size,0,none⟩) 1 1) (V.alloc (.cells #[.string s] 9)):=by kernel_rfl
set_option maxHeartbeats 2000000 in
theorem zvr (w:World) (ao:Option Addr) (c:Nat) (ps:List (List UInt8)) (hP:Ids w ao c ps) (hm:ps.length≤100000):Calls Tryz.prog 42 #[.slice ao ps.length c] w fun e w'=>∃ v,e = .returned v∧Stg w' w.heap.size v ps∧w.grownBy w' none:=by
 obtain ⟨n,hln⟩:∃ n,n=ps.length:=⟨_,rfl⟩
 rw[← hln]
 obtain ⟨HP,HL⟩:=zh2 hP hln
 have hn9:n≤100000:=by omega
 clear hP hln hm
 go_enter Tryz.func42,Tryz.ntmps42
 go_wp2
 go_loopw [3,4] (fun v i wr=>∃ j:Nat,i = .int .i64 j∧j≤n∧Stg wr w.heap.size v (ps.take j)∧w.grownBy wr none) (fun _ i _=>n - (intOf i).toNat)
 case atStart=>exact ⟨0,rfl,Nat.zero_le _,Stg.nil _ _,zab _ _⟩
 case round =>
  obtain ⟨j,rfl,hj,ho,hg⟩:=hrel
  by_cases hlt:j<n
  ·have hlt' : j<ps.length:=by have:=uh HL;omega
   obtain ⟨b,o,hao,hrow⟩:=(uh HP).at j hlt'
   have hr:=zaf (hrow j hlt') hg (by simp)
   have hid:=(uh HP).ids _ (List.getElem_mem hlt')
   have hnew:=List.take_succ_eq_append_getElem hlt'
   obtain ⟨E,hEE⟩:∃ E,E=ps[j]:=⟨_,rfl⟩
   rw[← hEE] at hr hid hnew
   have hcv:=zaz (zci hr (by rw[hid];unfold maxLen;omega))
   rw[hid] at hcv
   have hsl:=zbw b (o+j*32)
   have hbs:=zjq (str E) wr
   obtain ⟨W5,hW5,hB5,g5⟩:∃ W,W=wr.alloc (.cells #[.string (str E)] 9)∧Blk W wr.heap.size 9 [.string (str E)]∧wr.grownBy W none:=zag wr _ _
   have hcE:W5.cell? ⟨wr.heap.size,0,none⟩=some (stv E):=by rw[hB5.cell 0];rfl
   obtain ⟨TE,hTE⟩:∃ T,T=str E:=⟨_,rfl⟩
   rw[← hTE] at hcv hbs hW5
   have ho5:=ho.kept g5
   have G5:=tn hg g5
   have hl9:(ps.take j).length≤1000000:=by rw[List.length_take];omega
   obtain ⟨HW5,HBS,HNW,HO5,HG5,HCE⟩:=zh6 hW5 hbs hnew ho5 G5 hcE
   clear hrow hEE hr hid hnew hW5 hB5 g5 hTE hbs ho hg ho5 G5 hcE hlt'
   subst hao
   go_wp2_with (first
    | (refine zaq rfl 25 _ rfl (.string TE) _ rfl (uh HBS) ?_;rw[← uh HW5])
    | (refine zb4 rfl _ _ rfl w.heap.size _ _ E _ rfl (uh HO5) rfl (uh HCE) hl9 (uh HG5).size ?_;intro v6 w6 ho6 g6;have HO6:=hide ho6;have HG6:=hide (zae (uh HG5) g6 (fun x e=>Or.inl ((uh HO5).lt x e).1));clear ho6 g6 HO5 HG5))
   go_roundw
   case rel =>
    refine ⟨j+1,by go_num,by omega,?_,uh HG6⟩
    rw[uh HNW]
    exact uh HO6
   case measure=>simp[intOf];omega
  ·have hjn:j=ps.length:=by have:=uh HL;omega
   rw[hjn,List.take_of_length_le (Nat.le_refl _)] at ho
   have HO:=hide ho
   clear hjn ho
   go_wp2
   go_ret
   exact ⟨_,rfl,uh HO,hg⟩
structure PlnR where
 kind:Int
 ao:Option Addr
 c:Nat
 pl:List Int
 n:Nat
 gone:Bool
deriving Inhabited
def plC (p:PlnR):List Value:=[.int .i64 p.kind,.slice p.ao p.pl.length p.c,.int .u64 (p.n:Int),.bool p.gone]
theorem zx0 (p:PlnR):∀ u∈plC p,u.oneCell'=true:=by
 intro u hu
 simp only[plC,List.mem_cons,List.not_mem_nil,or_false] at hu
 rcases hu with rfl | rfl | rfl | rfl <;> rfl
structure Plns (w:World) (ao:Option Addr) (c:Nat) (L:List PlnR):Prop where
 zip:ao=none→L.length=0∧c=0
 fits:L.length≤c
 most:c≤maxLen
 shape:∀ ad,ao=some ad→0<L.length→ad.spot=none
 row:∀ ad,ao=some ad→∀ i (h:i<L.length),w.rangeAt ad.block (ad.off+i*4) (plC L[i])
 ats:∀ p∈L,Nts w p.ao p.c p.pl
 ns:∀ p∈L,p.n<18446744073709551616
theorem Plns.kept {w a:World} {ao:Option Addr} {c:Nat} {L:List PlnR} (h:Plns w ao c L) (g:w.grownBy a none):Plns a ao c L :=
 ⟨h.zip,h.fits,h.most,h.shape,fun ad e i hi=>zaf (h.row ad e i hi) g (by simp),fun p hp=>(h.ats p hp).kept g,h.ns⟩
theorem Plns.at {w:World} {ao:Option Addr} {c:Nat} {L:List PlnR} (h:Plns w ao c L) (i:Nat) (hi:i<L.length):∃ b o,ao=some ⟨b,o,none⟩∧w.rangeAt b (o+i*4) (plC L[i])∧Nts w L[i].ao L[i].c L[i].pl∧L[i].n<18446744073709551616:=by
 have h1:=h.ats _ (List.getElem_mem hi)
 have h2:=h.ns _ (List.getElem_mem hi)
 cases ao with
 | none=>have:=(h.zip rfl).1;omega
 | some ad =>
  have hs:=h.shape ad rfl (by omega)
  have hc:=h.row ad rfl i hi
  obtain ⟨b,o,s⟩:=ad
  simp only at hs hc
  subst hs
  exact ⟨b,o,rfl,hc,h1,h2⟩
theorem zm4 (z:Int) (n:Nat) (h:0<n) (hn:n≤1000000):∃ (r s:Int) (q:Nat),z.tmod (n:Int)=r∧IntKind.i64.wrap (r+(n:Int))=s∧s.tmod (n:Int)=(q:Int)∧q<n:=by
 have h1:=Int.tmod_lt_of_pos z (show (0:Int)<(n:Int) by omega)
 have h2:=Int.lt_tmod_of_pos z (show (0:Int)<(n:Int) by omega)
 refine ⟨_,_,((IntKind.i64.wrap (z.tmod (n:Int)+(n:Int))).tmod (n:Int)).toNat,rfl,rfl,?_,?_⟩
 ·have hw:IntKind.i64.wrap (z.tmod (n:Int)+(n:Int))=z.tmod (n:Int)+(n:Int):=by rw[IntKind.wrap_i64];omega
  rw[hw]
  have:=Int.tmod_nonneg (b:=(n:Int)) (show 0≤z.tmod (n:Int)+(n:Int) by omega)
  omega
 ·have hw:IntKind.i64.wrap (z.tmod (n:Int)+(n:Int))=z.tmod (n:Int)+(n:Int):=by rw[IntKind.wrap_i64];omega
  rw[hw]
  have:=Int.tmod_lt_of_pos (z.tmod (n:Int)+(n:Int)) (show (0:Int)<(n:Int) by omega)
  have:=Int.tmod_nonneg (b:=(n:Int)) (show 0≤z.tmod (n:Int)+(n:Int) by omega)
  omega
theorem zod (V:World) (t:TypeId) (K base:Nat) (h:base≤V.heap.size):∃ Wb,Wb=V.alloc (.cells #[] t)∧Wb.ownsRow base t K (.slice (some ⟨V.heap.size,0,none⟩) 0 0) 0 []∧V.grownBy Wb none:=by
 refine ⟨_,rfl,⟨by simp,Or.inr ⟨V.heap.size,0,#[],rfl,h,?_,Nat.le_refl _,by unfold maxLen;omega,by simp,by simp⟩⟩,zah (zab _ _) _⟩
 exact heap_alloc_new V (.cells #[] t)
theorem zp9 (w:World) (ao:Option Addr) (c:Nat) (ps:List (List UInt8)) (hP:Ids w ao c ps) (hm:ps.length≤100000):Calls Tryz.prog 18 #[.slice ao ps.length c] w fun e w'=>∃ v,e = .returned v∧Stg w' w.heap.size v ps∧w.grownBy w' none:=by
 have ci:=zvr w ao c ps hP hm
 obtain ⟨n,hn⟩:∃ n,n=ps.length:=⟨_,rfl⟩
 rw[← hn] at ci ⊢
 clear hP hm hn
 go_enter Tryz.func18,Tryz.ntmps18
 go_wp2_with fail
 refine ci.mono ?_
 rintro e w1 ⟨v,rfl,h1,h2⟩
 obtain ⟨H1,H2⟩:=zh2 h1 h2
 clear h1 h2 ci
 go_wp2
 go_ret
 exact ⟨v,rfl,uh H1,uh H2⟩
end Go.Proofs.YthhnfloohbdaiaaGreatDoor
