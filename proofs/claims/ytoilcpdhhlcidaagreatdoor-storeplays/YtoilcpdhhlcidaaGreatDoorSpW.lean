/- Lemmas. -/
import Derived.Test.YtoilcpdhhlcidaaGreatDoorDkC
import Derived.BigQuiet
import Derived.Deep.DeepCutAuto
import Derived.Test.YtoilcpdhhlcidaaGreatDoorRStO
namespace Go.Proofs.YtoilcpdhhlcidaaGreatDoor
open Go.RowKit
set_option maxRecDepth 100000
def hfC (f e p g r m:Nat):List Value:=[.int .i64 (f:Int),.int .i64 (e:Int),.int .i64 (p:Int),.int .u64 (g:Int),.int .u64 (r:Int),.map (some m)]
theorem zcf (f e p g r m:Nat):∀ u∈hfC f e p g r m,u.oneCell'=true:=by
 intro u hu
 simp only[hfC,List.mem_cons,List.not_mem_nil,or_false] at hu
 rcases hu with rfl | rfl | rfl | rfl | rfl | rfl <;> rfl
theorem zau:(Tryz.prog.info? 69).map (·.size)=some 6:=by kernel_rfl
theorem zdh (w:World):(zeroValue 69).run Tryz.prog w = .ok (.agg #[.int .i64 0,.int .i64 0,.int .i64 0,.int .u64 0,.int .u64 0,.map none]) w:=by kernel_rfl
theorem zls (f e m:Nat):Tryz.prog.built 69 [(0,.int .i64 (f:Int)),(1,.int .i64 (e:Int)),(2,.int .i64 (f:Int)),(5,.map (some m))]=some (hfC f e f 0 0 m).toArray:=by kernel_rfl
theorem zbf {P:Program} {ops:Array Oper} {rest:List Oper} {o:Oper} {a:Act} {w:World} {Q:Exit→Act→World→Prop} (hg:o.guard=none) (t:TypeId) (parts:Array (Nat × Operand)) (ho:o.op = .build t parts) (cells:Array Value)
  (hf:P.built t (parts.map fun (i,x)=>(i,a.eval x)).toList=some cells)
  (h:wpList P ops Q rest (a.put o.dst (.agg cells)) w):wpList P ops Q (o::rest) a w :=
 wpList_build hg t parts ho (by rw[hf];rfl) (by rw[hf];exact h)
set_option maxHeartbeats 1000000 in
theorem ze1 (w:World) (v:Nat) (hv:v<4611686018427387904) :
  Calls Tryz.prog 61 #[.int .u64 (v:Int)] w fun e w'=>e = .returned (.int .i64 ((1+secN v:Nat):Int))∧w'=w:=by
 obtain ⟨k,hk⟩:∃ k,k=secN v:=⟨_,rfl⟩
 rw[← hk]
 unfold secN at hk
 have h1:IntKind.u64.wrap ((v:Int)+255)=(v:Int)+255:=by rw[IntKind.wrap_u64];omega
 have h2:IntKind.u64.wrap ((v:Int)+255 - 1)=(v:Int)+254:=by rw[IntKind.wrap_u64];omega
 have h3:Int.tdiv ((v:Int)+254) 255=(k:Int):=by rw[Int.tdiv_eq_ediv_of_nonneg (by omega)];omega
 have h4:IntKind.u64.wrap (k:Int)=(k:Int):=by rw[IntKind.wrap_u64];omega
 have h5:IntKind.i64.wrap (k:Int)=(k:Int):=by rw[IntKind.wrap_i64];omega
 have h6:IntKind.i64.wrap (1+(k:Int))=((1+k:Nat):Int):=by rw[IntKind.wrap_i64];omega
 clear hk hv
 go_enter Tryz.func61,Tryz.ntmps61
 go_wp2
 go_ret
 exact ⟨rfl,rfl⟩
set_option maxHeartbeats 1000000 in
theorem zd3 (w:World) (f e:Nat) :
  Calls Tryz.prog 53 #[.int .i64 (f:Int),.int .i64 (e:Int)] w fun r w'=>r = .returned (.agg (hfC f e f 0 0 (w.heap.size+1)).toArray)∧SmapAt w' (w.heap.size+1) []∧w.grownBy w' none:=by
 have hzv:=zdh
 obtain ⟨W1,hW1,hB1,g1⟩:=zah w 69 [.int .i64 0,.int .i64 0,.int .i64 0,.int .u64 0,.int .u64 0,.map none]
 have s1:W1.heap.size=w.heap.size+1:=by rw[hW1,World.size_alloc]
 obtain ⟨W2,hW2⟩:∃ W,W=W1.alloc (.map #[] 0):=⟨_,rfl⟩
 have hM:SmapAt W2 (w.heap.size+1) []:=by rw[hW2,← s1];exact SmapAt.new W1
 have hB2:=hB1.alloc (.map #[] 0)
 rw[← hW2] at hB2
 have g2:w.grownBy W2 none:=by rw[hW2];exact zaf g1 _
 have hmk:(Instr.makeMap 67 none).run Tryz.prog W1 = .ok (.map (some (w.heap.size+1))) W2:=by rw[hW2,← s1];exact run_makeMap _ W1
 have hR:=hB2.row (hfC f e f 0 0 (w.heap.size+1))
 have hM2:=hM.kept (zaj (zac W2 (some w.heap.size)) (hfC f e f 0 0 (w.heap.size+1)).toArray (Or.inr rfl)) (fun e=>by have:=hM.lt;injection e;omega)
 have hbl:=zls f e (w.heap.size+1)
 obtain ⟨HR,HB,HM,HG,HW1⟩:=zh5 hR hB2 hM2 g2 hW1
 clear hM hB2 g2 hM2 hR hW1 hB1 g1 s1 hW2
 go_enter Tryz.func53,Tryz.ntmps53
 go_wp2_with (first
  | (rw[← uh HW1])
  | (refine zbf rfl 69 _ rfl (hfC f e f 0 0 (w.heap.size+1)).toArray ?hb ?_;(case hb=>exact hbl))
  | (have hB9:=uh HB;refine wpList_store_row rfl 69 _ _ rfl w.heap.size _ rfl rfl _ _ hB9 zau rfl (all_oneCell_toArray (zcf _ _ _ _ _ _)) ?_;clear hB9))
 refine bodyPost_ret (results_cell_row rfl _ _ _ _ _ _ _ rfl (uh HR) Tryz.underlying69 rfl zau) rfl ?_
 exact ⟨rfl,uh HM,zaj (uh HG) _ (Or.inl (Nat.le_refl _))⟩
theorem Fr.bts0 {w a:World} {F:List Nat} {ao:Option Addr} {c:Nat} {l:List UInt8} (g:Fr w a F) (h:Bts w ao c l) (hb:∀ ad,ao=some ad→l≠[]→ad.block∉F):Bts a ao c l :=
 ⟨h.zip,h.fits,h.most,h.shape,fun ad e i hi=>g.cell (h.cell ad e i hi) (hb ad e (fun e2=>by rw[e2] at hi;exact absurd hi (Nat.not_lt_zero _)))⟩
theorem Bts.lt {w:World} {ao:Option Addr} {c:Nat} {l:List UInt8} (h:Bts w ao c l):∀ ad,ao=some ad→l≠[]→ad.block<w.heap.size:=fun ad e hl=>by
 have:=World.block_lt_of_cell? w _ (h.cell ad e 0 (List.length_pos_iff.2 hl))
 exact this
theorem SmapAt.bts {w:World} {m:Nat} {K:List (List UInt8 × Value)} (h:SmapAt w m K) {ao:Option Addr} {c:Nat} {l:List UInt8} (hb:Bts w ao c l):∀ ad,ao=some ad→l≠[]→ad.block≠m:=fun ad e hl e2=>by
 obtain ⟨A,k,h1,_⟩:=h.is
 have:=hb.cell ad e 0 (List.length_pos_iff.2 hl)
 rw[e2] at this
 simp[World.cell?,h1] at this
theorem SmapAt.fr {w a:World} {F:List Nat} {m:Nat} {K:List (List UInt8 × Value)} (h:SmapAt w m K) (g:Fr w a F) (hb:m∉F):SmapAt a m K:=h.same (g.block m h.lt hb)
def VmW (w:World) (m:Nat) (G:List Nat) (V:List (List UInt8 × List UInt8)):Prop :=
 RisK V∧∃ K,SmapAt w m K∧(∀ p∈K,∃ ao c x,p.2 = .slice ao x.length c∧Bts w ao c x∧getK V p.1=some x∧∀ ad,ao=some ad→x≠[]→ad.block∉G)∧∀ k,k∉K.map (·.1)→getK V k=none
theorem VmW.lt {w:World} {m:Nat} {G:List Nat} {V:List (List UInt8 × List UInt8)} (h:VmW w m G V):m<w.heap.size:=by
 obtain ⟨_,K,h1,_⟩:=h
 exact h1.lt
theorem VmW.fr {w a:World} {m:Nat} {G F:List Nat} {V:List (List UInt8 × List UInt8)} (h:VmW w m G V) (g:Fr w a F) (hm:m∉F) (hF:∀ x∈F,x∈G):VmW a m G V:=by
 obtain ⟨h0,K,h1,h2,h3⟩:=h
 refine ⟨h0,K,h1.fr g hm,fun p hp => ?_,h3⟩
 obtain ⟨ao,c,x,e,hb,hv,hg⟩:=h2 p hp
 exact ⟨ao,c,x,e,g.bts0 hb (fun ad e2 hl hf=>hg ad e2 hl (hF _ hf)),hv,hg⟩
theorem VmW.nn {w a:World} {m:Nat} {G:List Nat} {V:List (List UInt8 × List UInt8)} (h:VmW w m G V) (g:w.grownBy a none):VmW a m G V:=h.fr (Fr.none g []) (fun e=>by cases e) (fun _ e=>by cases e)
theorem VmW.more {w:World} {m:Nat} {G H:List Nat} {V:List (List UInt8 × List UInt8)} (h:VmW w m G V) (hH:∀ x∈H,x∈G∨w.heap.size≤x∨x=m):VmW w m H V:=by
 obtain ⟨h0,K,h1,h2,h3⟩:=h
 refine ⟨h0,K,h1,fun p hp => ?_,h3⟩
 obtain ⟨ao,c,x,e,hb,hv,hg⟩:=h2 p hp
 refine ⟨ao,c,x,e,hb,hv,fun ad e2 hl hf => ?_⟩
 rcases hH _ hf with h4 | h4 | h4
 ·exact hg ad e2 hl h4
 ·have:=hb.lt ad e2 hl;omega
 ·exact h1.bts hb ad e2 hl h4
theorem VmW.new {w:World} {m:Nat} (h:SmapAt w m []) (G:List Nat):VmW w m G []:=⟨RisK.nil,[],h,(fun p hp=>by cases hp),fun _ _=>rfl⟩
theorem VmW.look {w:World} {m:Nat} {G:List Nat} {V:List (List UInt8 × List UInt8)} (h:VmW w m G V) (k:List UInt8) (ok:Bool) :
  ∃ ao c x,(Instr.lookup 67 (.map (some m)) (keyS k) ok).run Tryz.prog w = .ok (if ok then .tuple #[.slice ao x.length c,.bool (getK V k).isSome] else .slice ao x.length c) w∧Bts w ao c x∧x=(getK V k).getD []∧∀ ad,ao=some ad→x≠[]→ad.block∉G:=by
 obtain ⟨h0,K,h1,h2,h3⟩:=h
 have hl:=h1.look 67 53 Tryz.underlying67 (.slice none 0 0) (by kernel_rfl) k ok
 cases hg:getZ K k with
 | none =>
   have hk:k∉K.map (·.1):=fun hm=>by have:=(zd2 K k).2 hm;rw[hg] at this;cases this
   rw[hg] at hl
   refine ⟨none,0,[],?_,Bts.nil w,by rw[h3 k hk];rfl,fun _ e=>by cases e⟩
   rw[hl,h3 k hk];rfl
 | some v =>
   obtain ⟨ao,c,x,e,hb,hv,hgg⟩:=h2 _ (zks hg)
   simp only at e hv
   rw[hg] at hl
   refine ⟨ao,c,x,?_,hb,by rw[hv];rfl,hgg⟩
   rw[hl,hv,e];rfl
theorem VmW.put {w:World} {m:Nat} {G:List Nat} {V:List (List UInt8 × List UInt8)} (h:VmW w m G V) (k x:List UInt8) (ao:Option Addr) (c:Nat) (hb:Bts w ao c x) (hG:∀ ad,ao=some ad→x≠[]→ad.block∉G) :
  ∃ w',(Instr.mapUpdate 67 (.map (some m)) (keyS k) (.slice ao x.length c)).run Tryz.prog w = .ok () w'∧VmW w' m G (putK V k x)∧w.grownBy w' (some m)∧w'.heap.size=w.heap.size:=by
 obtain ⟨h0,K,h1,h2,h3⟩:=h
 obtain ⟨w',q1,q2,q3,q4⟩:=h1.store 67 53 Tryz.underlying67 k (.slice ao x.length c)
 have g:Fr w w' [m]:=Fr.of q3 (fun y e=>by cases e;exact Or.inl (by simp))
 refine ⟨w',q1,⟨zkk h0 k x,_,q2,fun p hp => ?_,fun q hq => ?_⟩,q3,q4⟩
 ·rcases (zhs k _ p).1 hp with rfl | ⟨hp1,hp2⟩
  ·exact ⟨ao,c,x,rfl,g.bts0 hb (fun ad e hl hf=>h1.bts hb ad e hl (by simpa using hf)),by simp only;rw[zfn h0,if_pos rfl],hG⟩
  ·obtain ⟨ao',c',x',e,hb',hv,hg⟩:=h2 p hp1
   exact ⟨ao',c',x',e,g.bts0 hb' (fun ad e hl hf=>h1.bts hb' ad e hl (by simpa using hf)),by rw[zfn h0,if_neg (fun e=>hp2 e.symm)];exact hv,hg⟩
 ·have hne:k≠q:=fun e=>hq (by subst e;exact List.mem_map.2 ⟨(k,_),(zhs k _ _).2 (Or.inl rfl),rfl⟩)
  rw[zfn h0,if_neg hne]
  refine h3 q (fun hm=>hq ?_)
  obtain ⟨p,hp,rfl⟩:=List.mem_map.1 hm
  exact List.mem_map.2 ⟨p,(zhs k _ _).2 (Or.inr ⟨hp,fun e=>hne e.symm⟩),rfl⟩
theorem VmW.del {w:World} {m:Nat} {G:List Nat} {V:List (List UInt8 × List UInt8)} (h:VmW w m G V) (k:List UInt8) (u:TypeId) (T:Array TypeId) (hT:T[0]? = some 67) :
  ∃ w',(Builtin.delete_ T u #[.map (some m),keyS k]).run Tryz.prog w = .ok (.tuple #[]) w'∧VmW w' m G (delK V k)∧w.grownBy w' (some m)∧w'.heap.size=w.heap.size:=by
 obtain ⟨h0,K,h1,h2,h3⟩:=h
 obtain ⟨w',q1,q2,q3,q4⟩:=h1.del 67 53 u T hT Tryz.underlying67 k
 have g:Fr w w' [m]:=Fr.of q3 (fun y e=>by cases e;exact Or.inl (by simp))
 refine ⟨w',q1,⟨zkl h0 k,_,q2,fun p hp => ?_,fun q hq => ?_⟩,q3,q4⟩
 ·obtain ⟨hp1,hp2⟩:=(zku k p).1 hp
  obtain ⟨ao',c',x',e,hb',hv,hg⟩:=h2 p hp1
  exact ⟨ao',c',x',e,g.bts0 hb' (fun ad e hl hf=>h1.bts hb' ad e hl (by simpa using hf)),by rw[zhn,if_neg (fun e=>hp2 e.symm)];exact hv,hg⟩
 ·rw[zhn]
  by_cases e:k=q
  ·rw[if_pos e]
  ·rw[if_neg e]
   refine h3 q (fun hm=>hq ?_)
   obtain ⟨p,hp,rfl⟩:=List.mem_map.1 hm
   exact List.mem_map.2 ⟨p,(zku k _).2 ⟨hp,fun e2=>e e2.symm⟩,rfl⟩
structure CsG (w:World) (ao:Option Addr) (c:Nat) (L:List ChI) (G:List Nat):Prop where
 is:CsI w ao c L
 row:∀ ad,ao=some ad→L≠[]→ad.block∉G
 val:∀ x∈L,∀ ad,x.bo=some ad→x.val≠[]→ad.block∉G
theorem CsG.fr {w a:World} {ao:Option Addr} {c:Nat} {L:List ChI} {G F:List Nat} (h:CsG w ao c L G) (g:Fr w a F) (hF:∀ x∈F,x∈G):CsG a ao c L G :=
 ⟨⟨⟨h.is.row.zip,h.is.row.fits,h.is.row.most,h.is.row.spot,fun ad e i hi j v hv=>g.cell (h.is.row.row ad e i hi j v hv) (fun hf=>h.row ad e (fun e2=>by rw[e2] at hi;exact absurd hi (Nat.not_lt_zero _)) (hF _ hf))⟩,
   fun x hx=>g.bts0 (h.is.val x hx) (fun ad e hl hf=>h.val x hx ad e hl (hF _ hf))⟩,h.row,h.val⟩
theorem CsG.nn {w a:World} {ao:Option Addr} {c:Nat} {L:List ChI} {G:List Nat} (h:CsG w ao c L G) (g:w.grownBy a none):CsG a ao c L G:=h.fr (Fr.none g []) (fun _ e=>by cases e)
theorem CsG.more {w:World} {ao:Option Addr} {c:Nat} {L:List ChI} {G H:List Nat} (h:CsG w ao c L G) (hH:∀ x∈H,x∈G∨w.heap.size≤x):CsG w ao c L H :=
 ⟨h.is,fun ad e hl hf=>by
  rcases hH _ hf with h4 | h4
  ·exact h.row ad e hl h4
  ·have hpos:=List.length_pos_iff.2 hl
   have:=World.block_lt_of_cell? w _ (h.is.row.row ad e 0 hpos 0 _ rfl)
   simp only at this
   omega,fun x hx ad e hl hf=>by
  rcases hH _ hf with h4 | h4
  ·exact h.val x hx ad e hl h4
  ·have:=(h.is.val x hx).lt ad e hl;omega⟩
end Go.Proofs.YtoilcpdhhlcidaaGreatDoor
