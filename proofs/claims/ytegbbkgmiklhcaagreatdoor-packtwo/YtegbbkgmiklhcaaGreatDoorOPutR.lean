/- Lemmas. -/
import Derived.Test.YtegbbkgmiklhcaaGreatDoorOLink2
namespace Go.Proofs.YtegbbkgmiklhcaaGreatDoor
open Go.RowKit
set_option maxRecDepth 100000
theorem zq8 (w:World) (x:UInt8):∃ W,W=w.alloc (.cells #[.int .u8 ((x.toNat:Nat):Int)] 5)∧Bts W (some ⟨w.heap.size,0,none⟩) 1 [x]∧w.grownBy W none :=
 ⟨_,rfl,zc7 (l:=[x]) (zal (Blk.new w 5 [bv x])) (by show 1≤maxLen;decide),zai (zab _ _) _⟩
theorem zqv (k:Int):IntKind.u8.wrap k=(((UInt8.ofInt k).toNat:Nat):Int):=by
 rw[IntKind.wrap_u8]
 unfold UInt8.ofInt
 rw[UInt8.toNat_ofNat']
 omega
theorem zjo (w:World) (k:Int) (ao:Option Addr) (c:Nat) (d:List UInt8) (hb:Bts w ao c d) (hd:d.length≤35184372088832):Calls Tryz.prog 24 #[.agg #[.int .i64 k,.slice ao d.length c]] w fun e w'=>∃ v,e = .returned v∧NewB w w' v (putL k d)∧w.grownBy w' none:=by
 obtain ⟨n,hn⟩:∃ n,n=d.length:=⟨_,rfl⟩
 obtain ⟨W0,hW0,hB0,g0⟩:∃ W1,W1=w.alloc (.cells #[.int .i64 k,.slice ao n c] 42)∧Blk W1 w.heap.size 42 [.int .i64 k,.slice ao n c]∧w.grownBy W1 none:=zah w _ _
 obtain ⟨W1,hW1,hb1,g1⟩:=zq8 W0 (UInt8.ofInt k)
 have hcv:=zqv k
 have cs:=zj0 W1 _ ao 1 c [UInt8.ofInt k] d hb1 (hb.kept (tn g0 g1) (fun _ e=>by cases e)) (by simp;omega)
 rw[show (([UInt8.ofInt k]:List UInt8)).length=1 from rfl,← hn] at cs
 rw[← hn]
 have hput:putL k d=[UInt8.ofInt k]++layS d:=rfl
 rw[← hput] at cs
 obtain ⟨P,hP⟩:∃ P,P=putL k d:=⟨_,rfl⟩
 rw[← hP] at cs ⊢
 obtain ⟨z,hz⟩:∃ z:Int,z=(((UInt8.ofInt k).toNat:Nat):Int):=⟨_,rfl⟩
 rw[← hz] at hcv hW1
 have hs0:W0.heap.size=w.heap.size+1:=by rw[hW0];simp
 rw[hs0] at cs
 have hW:W1=(w.alloc (.cells #[.int .i64 k,.slice ao n c] 42)).alloc (.cells #[.int .u8 z] 5):=by rw[hW1,hW0]
 have c1:=(hB0.kept g1 (by simp)).cell 1
 simp only[List.getElem?_cons_zero,List.getElem?_cons_succ] at c1
 have HW:=hide hW
 have G1:=tn g0 g1
 clear hW hW1 hW0 hz hP hput hb hb1 hB0 g0 g1 hs0 hd hn
 go_enter Tryz.func24,Tryz.ntmps24
 go_wp2_with (rw[← uh HW])
 refine cs.mono ?_
 rintro e w2 ⟨v2,rfl,hN2,g2⟩
 have HN:=hide hN2
 clear cs hN2 c1
 go_wp2
 go_ret
 exact ⟨_,rfl,NewB.later (uh HN) G1.size,tn G1 g2⟩
structure ObjR where
 kind:Nat
 data:List UInt8
 ao:Option Addr
 c:Nat
deriving Inhabited
def obC (r:ObjR):List Value:=[.int .i64 (r.kind:Int),.slice r.ao r.data.length r.c]
theorem zhw:(Tryz.prog.info? 42).map (fun i=>(i.zero,i.size,i.bytes))=some (some (.agg #[.int .i64 0,.slice none 0 0]),2,32):=by kernel_rfl
theorem zeg {w:World} {ops:Array Oper} {rest:List Oper} {o:Oper} {a:Act} {Q:Exit→Act→World→Prop} (hgd:o.guard=none) (s x:Operand)
  (ho:o.op = .call { callee := .builtin .append,args := #[s,x],argTypes := #[22,22] })
  (base:Nat) (v:Value) (n:Nat) (xs:List Value) (hs:a.eval s=v) (hown:w.ownsRow base 42 2 v n xs) (p:Nat) (EC:List Value) (hB:Blk w p 42 EC) (hEl:EC.length=2) (hE1:∀ u∈EC,u.oneCell'=true)
  (hx:a.eval x = .slice (some ⟨p,0,none⟩) 1 1) (hn:n≤100000) (hbase:base≤w.heap.size)
  (h:∀ v' w',w'.ownsRow base 42 2 v' (n+1) (xs++EC)→w.grownBy w' v.ownBlock→wpList Tryz.prog ops Q rest (a.put o.dst v') w'):wpList Tryz.prog ops Q (o::rest) a w:=by
 obtain ⟨i0,hi,hz0,hz1,hz2⟩:=info_parts zhw
 exact wpList_append_own w hgd s x 22 ho base 42 i0 _ 2 32 Tryz.underlying22 hi hz0 hz1 hz2 rfl (by decide) v n xs hs hown ⟨p,0,none⟩ 1 1 EC hx (by rw[hEl]) (fun j u hu=>World.news_of_block hB j u (by simpa using hu)) hE1 (by unfold maxLen;omega) (by omega) hbase (fun v' w' q1 q2 _=>h v' w' q1 q2)
theorem zp3 {w a:World} {base n:Nat} {v:Value} {xs:List Value} (h:w.ownsRow base 42 2 v n xs) (g:w.grownBy a none):a.ownsRow base 42 2 v n xs :=
 h.kept g (by
  by_cases e:v.ownBlock=none
  ·exact Or.inl e
  ·exact Or.inr e)
theorem zow (k:Int) (ao:Option Addr) (n c:Nat) (V:World):(Instr.buildSlice 22 1 #[(0,.agg #[.int .i64 k,.slice ao n c])]).run Tryz.prog V = .ok (.slice (some ⟨V.heap.size,0,none⟩) 1 1) (V.alloc (.cells #[.int .i64 k,.slice ao n c] 42)):=by kernel_rfl
structure Objs (w:World) (base:Nat) (v:Value) (R:List ObjR):Prop where
 own:w.ownsRow base 42 2 v R.length (R.flatMap obC)
 bts:∀ r∈R,Bts w r.ao r.c r.data
 typ:∀ r∈R,∀ ad,r.ao=some ad→Typ w ad.block
theorem Objs.nil (w:World) (base:Nat):Objs w base (.slice none 0 0) []:=⟨World.ownsRow_nil w base _ 2,(fun _ e=>by cases e),(fun _ e=>by cases e)⟩
theorem Objs.none {w a:World} {base:Nat} {v:Value} {R:List ObjR} (h:Objs w base v R) (g:w.grownBy a Option.none):Objs a base v R :=
 ⟨zp3 h.own g,fun r hr=>(h.bts r hr).kept g (fun _ e=>by cases e),fun r hr ad e=>(h.typ r hr ad e).kept g (by simp)⟩
theorem Objs.put {w a:World} {base:Nat} {v v2:Value} {R:List ObjR} (h:Objs w base v R) (r:ObjR) (hb:Bts w r.ao r.c r.data) (ht:∀ ad,r.ao=some ad→Typ w ad.block) (g:w.grownBy a v.ownBlock)
  (ho:a.ownsRow base 42 2 v2 (R.length+1) (R.flatMap obC++obC r)):Objs a base v2 (R++[r]):=by
 have ne:∀ x,v.ownBlock=some x→¬ Typ w x:=fun x e=>zbx h.own e (by decide)
 have all:∀ q∈R++[r],Bts w q.ao q.c q.data∧∀ ad,q.ao=some ad→Typ w ad.block:=by
  intro q hq
  rcases List.mem_append.1 hq with h1 | h1
  ·exact ⟨h.bts q h1,h.typ q h1⟩
  ·rw[List.mem_singleton.1 h1];exact ⟨hb,ht⟩
 refine ⟨by simpa using ho,fun q hq => ?_,fun q hq ad e => ?_⟩
 ·exact (all q hq).1.kept g (fun x e ad e2 e3=>ne x e (by rw[← e3];exact (all q hq).2 ad e2))
 ·exact ((all q hq).2 ad e).kept g (fun e2=>ne _ e2.symm ((all q hq).2 ad e))
theorem Objs.open {w:World} {base:Nat} {v:Value} {R:List ObjR} (h:Objs w base v R):∃ ao c,v = .slice ao R.length c∧∀ i (hi:i<R.length),∃ b o,ao=some ⟨b,o,Option.none⟩∧w.cell? ⟨b,o+i*2,Option.none⟩=some (.int .i64 (R[i].kind:Int))∧w.cell? ⟨b,o+i*2+1,Option.none⟩=some (.slice R[i].ao R[i].data.length R[i].c):=by
 obtain ⟨ao,c,h1,h2,h3,h4,h5,h6⟩:=zde obC 2 h.own (fun _ _=>rfl)
 refine ⟨ao,c,h1,fun i hi => ?_⟩
 cases ao with
 | none=>have:=(h2 rfl).1;omega
 | some ad =>
  obtain ⟨b,o,sp⟩:=ad
  have hs:sp=Option.none:=(h5 _ rfl).1
  subst hs
  have hr:=h6 _ rfl i hi
  exact ⟨b,o,rfl,hr 0 _ rfl,hr 1 _ rfl⟩
def rdL (b:List UInt8):Int × Int × List UInt8 :=
 let a:=numS b 0 1
 let s:=zak a.2.1 a.2.2
 if zd9 s.2.1 s.2.2=0∧zar (a.1:Int) s.1=0 then (0,(a.1:Int),s.1) else (11,0,[])
theorem zof (l:List UInt8) (k:Int):(numS l k 1).1<256:=by
 have hnb:nb 1=1:=by decide
 unfold numS
 rw[hnb]
 repeat' split
 ·simp
 ·have h1:=zjw (l.take 1)
  have h2:256 ^ (l.take 1).length≤256 ^ 1:=Nat.pow_le_pow_right (by omega) (by simp;omega)
  simp only
  omega
 ·simp
set_option maxHeartbeats 2000000 in
theorem zhx (w:World) (ao:Option Addr) (c:Nat) (b:List UInt8) (hb:Bts w ao c b) (hl:b.length≤100000):Calls Tryz.prog 20 #[.slice ao b.length c] w fun e w'=>∃ v y kk,e = .returned (.tuple #[.agg #[.int .i64 kk,v],.int .i64 y])∧y=(rdL b).1∧kk=(rdL b).2.1∧NewB w w' v (rdL b).2.2∧w.grownBy w' none:=by
 obtain ⟨n,hn⟩:∃ n,n=b.length:=⟨_,rfl⟩
 obtain ⟨W0,hW0,hB0,g0⟩:∃ W1,W1=w.alloc (.cells #[.int .i64 0,.slice none 0 0] 42)∧Blk W1 w.heap.size 42 [.int .i64 0,.slice none 0 0]∧w.grownBy W1 none:=zah w _ _
 have cn:=ze5 W0 ao c b (hb.kept g0 (fun _ e=>by cases e)) (by omega)
 rw[← hn] at cn ⊢
 have hR:rdL b=(if zd9 (zak (numS b 0 1).2.1 (numS b 0 1).2.2).2.1 (zak (numS b 0 1).2.1 (numS b 0 1).2.2).2.2=0∧zar ((numS b 0 1).1:Int) (zak (numS b 0 1).2.1 (numS b 0 1).2.2).1=0 then (0,((numS b 0 1).1:Int),(zak (numS b 0 1).2.1 (numS b 0 1).2.2).1) else (11,0,[])):=rfl
 have hv256:=zof b 0
 have hl1:=zbc b 0 1
 obtain ⟨⟨v1,l1,e1⟩,h1⟩:∃ a,numS b 0 1=a:=⟨_,rfl⟩
 rw[h1] at hR hv256 hl1
 simp only at hR hv256 hl1
 have hdl:=zco l1 e1
 obtain ⟨⟨x,l2,e2⟩,h2⟩:∃ a,zak l1 e1=a:=⟨_,rfl⟩
 rw[h2] at hR hdl
 simp only at hR hdl
 obtain ⟨r,hr⟩:∃ r,r=rdL b:=⟨_,rfl⟩
 rw[← hr] at hR ⊢
 have hcv:IntKind.i64.wrap ((v1:Nat):Int)=((v1:Nat):Int):=by rw[IntKind.wrap_i64];omega
 obtain ⟨HW0,HB0,HG0,H1,H2,HR⟩:=zh6 hW0 hB0 g0 h1 h2 hR
 have hl1a:l1.length≤100000:=by omega
 have hxl:x.length≤100000:=by omega
 clear hn hb hl hW0 hB0 g0 h1 h2 hr hR hl1 hdl
 go_enter Tryz.func20,Tryz.ntmps20
 go_wp2_with (rw[← uh HW0])
 refine cn.mono ?_
 rintro e w1 ⟨rb,rfl,hrb,hRd,g1⟩
 have hws:w.heap.size<W0.heap.size:=(uh HB0).lt
 have hB1:=(uh HB0).kept g1 (by simp)
 have G1:=tn (uh HG0) g1
 have c1:=zc1 w1 rb b 0 1 hRd
 rw[uh H1] at c1
 simp only at c1
 clear cn hRd g1
 go_wp2_with fail
 refine c1.mono ?_
 rintro e w2 ⟨rfl,hR2,g2⟩
 have hB2:=hB1.kept g2 (by simp;omega)
 have G2:w.grownBy w2 none:=zac G1 g2 (fun y e=>by cases e;exact Or.inl (by omega))
 have c2:=zb0 w2 rb l1 e1 (by omega) hR2
 rw[uh H2] at c2
 simp only at c2
 clear c1 hB1 G1 hR2 g2
 go_wp2_with fail
 refine c2.mono ?_
 rintro e w3 ⟨v3,rfl,hN3,hR3,g3⟩
 have hB3:=hB2.kept g3 (by simp;omega)
 have G3:w.grownBy w3 none:=zac G2 g3 (fun y e=>by cases e;exact Or.inl (by omega))
 have hN3':=NewB.later hN3 G2.size
 obtain ⟨a3,k3,hv3,hb3,hn3⟩:=hN3'
 subst hv3
 obtain ⟨m,hm⟩:∃ m,m=x.length:=⟨_,rfl⟩
 rw[← hm]
 obtain ⟨W4,hW4,hO4,g4⟩:∃ W1,W1=w3.alloc (.cells #[.int .i64 (v1:Int),.slice a3 m k3] 42)∧Blk W1 w3.heap.size 42 [.int .i64 (v1:Int),.slice a3 m k3]∧w3.grownBy W1 none:=zah w3 _ _
 have G4:=tn G3 g4
 have hR4:=hR3.kept g4 (Or.inl rfl)
 have hB4:=hB3.kept g4 (by simp)
 have hb4:=hb3.kept g4 (fun _ e=>by cases e)
 have cd:=zh9 W4 rb l2 e2 hR4
 have cc:=zfq W4 (v1:Int) a3 k3 x hb4
 rw[← hm] at cc
 have d0:=hO4.cell 0
 have d1:=hO4.cell 1
 simp only[List.getElem?_cons_zero,List.getElem?_cons_succ] at d0 d1
 obtain ⟨HW4,HB4⟩:=zh2 hW4 hB4
 have HN4:Hid (NewB w W4 (.slice a3 m k3) x):=hide ⟨a3,k3,by rw[hm],hb4,fun ad e=>⟨(hn3 ad e).1,(hn3 ad e).2.kept g4 (by simp)⟩⟩
 obtain ⟨HO4,HG4⟩:=zh2 hO4 G4
 obtain ⟨D,hD⟩:∃ D,D=zd9 l2 e2:=⟨_,rfl⟩
 rw[← hD] at cd
 obtain ⟨C,hC⟩:∃ C,C=zar (v1:Int) x:=⟨_,rfl⟩
 rw[← hC] at cc
 have hR5:r=(if D=0∧C=0 then (0,(v1:Int),x) else (11,0,[])):=by rw[hD,hC];exact uh HR
 have HR5:=hide hR5
 clear c2 hB2 G2 hN3 hR3 g3 hB3 G3 hb3 hn3 hm hW4 hO4 g4 hR4 hB4 hb4 hD hC hR5 HR H1 H2 G4
 by_cases hD0:D=0
 ·subst hD0
  by_cases hC0:C=0
  ·subst hC0
   have hres:r=(0,(v1:Int),x):=by have:=uh HR5;rw[if_pos ⟨rfl,rfl⟩] at this;exact this
   have HRS:=hide hres
   clear hres HR5
   go_wp2_with (first
    | (rw[← uh HW4];go_at_call 39;refine cd.mono ?_;rintro e w5 ⟨rfl,hw5⟩;subst w5;clear cd)
    | (go_at_call 40;refine cc.mono ?_;rintro e w6 ⟨rfl,g6⟩;have HO6:=(uh HO4).kept g6 (by simp);have HB6:=(uh HB4).kept g6 (by simp);have e0:=HO6.cell 0;have e1:=HO6.cell 1;have f0:=HB6.cell 0;have f1:=HB6.cell 1;have z0:=HB6.fz 0;have z1:=HB6.fz 1;simp only[List.getElem?_cons_zero,List.getElem?_cons_succ] at e0 e1 f0 f1;clear cc))
   refine bodyPost_ret (zag rfl _ _ _ _ _ _ _ rfl ((HB6.set 0 (.int .i64 (v1:Int))).set 1 (.slice a3 m k3)) Tryz.underlying42 rfl zam) rfl ?_
   rw[uh HRS]
   refine ⟨_,_,_,rfl,rfl,rfl,?_,zae (zae (tn (uh HG4) g6) _ _ (Or.inl (Nat.le_refl _))) _ _ (Or.inl (Nat.le_refl _))⟩
   obtain ⟨a',c',q1,q2,q3⟩:=uh HN4
   have gs:w6.grownBy ((w6.setCell ⟨w.heap.size,0,none⟩ (.int .i64 (v1:Int))).setCell ⟨w.heap.size,1,none⟩ (.slice a3 m k3)) (some w.heap.size):=zae (zdj w6 w.heap.size 0 _) _ _ (Or.inr rfl)
   refine ⟨a',c',q1,(q2.kept g6 (fun _ e=>by cases e)).kept gs ?_,fun ad e=>⟨(q3 ad e).1,((q3 ad e).2.kept g6 (by simp)).kept gs ?_⟩⟩
   ·intro y e ad e5 e4
    cases e
    exact HB6.typ (by decide) (e4 ▸ (q3 ad e5).2.kept g6 (by simp))
   ·intro e4
    have e5:=Option.some.inj e4
    exact HB6.typ (by decide) (e5 ▸ (q3 ad e).2.kept g6 (by simp))
  ·have hC1:(C == 0)=false:=by simpa using hC0
   have hres:r=(11,0,[]):=by have:=uh HR5;rw[if_neg (fun h=>hC0 h.2)] at this;exact this
   have HRS:=hide hres
   clear hres HR5
   go_wp2_with (first
    | (rw[← uh HW4];go_at_call 39;refine cd.mono ?_;rintro e w5 ⟨rfl,hw5⟩;subst w5;clear cd)
    | (go_at_call 40;refine cc.mono ?_;rintro e w6 ⟨rfl,g6⟩;have HO6:=(uh HO4).kept g6 (by simp);have HB6:=(uh HB4).kept g6 (by simp);have e0:=HO6.cell 0;have e1:=HO6.cell 1;have f0:=HB6.cell 0;have f1:=HB6.cell 1;have z0:=HB6.fz 0;have z1:=HB6.fz 1;simp only[List.getElem?_cons_zero,List.getElem?_cons_succ] at e0 e1 f0 f1;clear cc))
   refine bodyPost_ret (zag rfl _ _ _ _ _ _ _ rfl ((HB6.set 0 (.int .i64 0)).set 1 (.slice none 0 0)) Tryz.underlying42 rfl zam) rfl ?_
   rw[uh HRS]
   exact ⟨_,_,_,rfl,rfl,rfl,NewB.nil _ _,zae (zae (tn (uh HG4) g6) _ _ (Or.inl (Nat.le_refl _))) _ _ (Or.inl (Nat.le_refl _))⟩
 ·have hD1:(D == 0)=false:=by simpa using hD0
  have hres:r=(11,0,[]):=by have:=uh HR5;rw[if_neg (fun h=>hD0 h.1)] at this;exact this
  have HRS:=hide hres
  have hBF:=uh HB4
  have f0:=hBF.cell 0
  have f1:=hBF.cell 1
  have z0:=hBF.fz 0
  have z1:=hBF.fz 1
  simp only[List.getElem?_cons_zero,List.getElem?_cons_succ] at f0 f1
  clear hres HR5 cc
  go_wp2_with (rw[← uh HW4];go_at_call 39;refine cd.mono ?_;rintro e w5 ⟨rfl,hw5⟩;subst w5;clear cd)
  refine bodyPost_ret (zag rfl _ _ _ _ _ _ _ rfl ((hBF.set 0 (.int .i64 0)).set 1 (.slice none 0 0)) Tryz.underlying42 rfl zam) rfl ?_
  rw[uh HRS]
  exact ⟨_,_,_,rfl,rfl,rfl,NewB.nil _ _,zae (zae (uh HG4) _ _ (Or.inl (Nat.le_refl _))) _ _ (Or.inl (Nat.le_refl _))⟩
end Go.Proofs.YtegbbkgmiklhcaaGreatDoor
