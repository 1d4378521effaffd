/- Lemmas. -/
import Derived.Test.YtoilcpdhhlcidaaGreatDoorDkL
import Derived.Deep.LoopGhost
namespace Go.Proofs.YtoilcpdhhlcidaaGreatDoor
open Go.RowKit
theorem zji:∀ {l u:List Nat},l.Nodup→(∀ x∈l,x∈u)→l.length≤u.length
 | [],_,_,_=>Nat.zero_le _
 | x::l,u,h,hs=>by
   have hc:=List.nodup_cons.1 h
   have h1:=zji (u:=u.erase x) hc.2 fun y hy=>(List.mem_erase_of_ne (fun e=>hc.1 (by rw[← e];exact hy))).2 (hs y (by simp[hy]))
   have h2:=List.length_erase_of_mem (hs x (by simp))
   have h3:=List.length_pos_of_mem (hs x (by simp))
   rw[List.length_cons]
   omega
structure ClI (w wr:World) (m m' r:Nat) (K:List (Nat × Value)) (U:List (Nat × List UInt8)) (done:List Nat) (K2:List (Nat × Value)):Prop where
 over:IoverAt wr m r K done
 map:ImapAt wr m' K2
 keys:∀ i,i∈K2.map (·.1)↔i∈done
 row:∀ p∈K2,wr.ownsRow w.heap.size 95 256 p.2 (zay U p.1).length ((zay U p.1).flatMap secC)
 apart:∀ p∈K2,∀ q∈K2,p.1≠q.1→p.2.ownBlock≠q.2.ownBlock
 full:∀ p∈K2,p.2.ownBlock≠none
 gb:w.grownBy wr none
 new:w.heap.size≤m'∧w.heap.size≤r∧m'≠r
theorem ClI.step {w wr w2 w3 w4:World} {m m' r:Nat} {K:List (Nat × Value)} {U:List (Nat × List UInt8)} {done:List Nat} {K2:List (Nat × Value)} (h:ClI w wr m m' r K U done K2) {i:Nat} {v:Value} (ho2:IoverAt w2 m r K (done++[i])) (g2:wr.grownBy w2 (some r))
  (hv:w3.ownsRow w2.heap.size 95 256 v (zay U i).length ((zay U i).flatMap secC)) (hvs:v.ownBlock≠none) (g3:w2.grownBy w3 none) (hM:ImapAt w4 m' (putI K2 i v)) (g4:w3.grownBy w4 (some m')) (hmm:m≠m'):ClI w w4 m m' r K U (done++[i]) (putI K2 i v):=by
 obtain ⟨n1,n2,n3⟩:=h.new
 have M2:=h.map.kept g2 (fun e=>n3 (by cases e;rfl))
 have M3:=M2.none g3
 have gw2:w.grownBy w2 none:=zae h.gb g2 (fun x e=>Or.inl (by cases e;exact n2))
 have gw3:=tn gw2 g3
 have hrm:some r≠some m':=fun e=>n3 (by cases e;rfl)
 have old:∀ p∈K2,w4.ownsRow w.heap.size 95 256 p.2 (zay U p.1).length ((zay U p.1).flatMap secC)∧p.2.ownBlock≠v.ownBlock:=by
  intro p hp
  have h0:=h.row p hp
  have h2:=h0.kept g2 (Or.inr fun e=>h.over.own h0 e.symm)
  have h3:=h2.kept g3 (by cases p.2.ownBlock <;> simp)
  refine ⟨h3.kept g4 (Or.inr fun e=>M3.own h3 e.symm),fun e => ?_⟩
  cases hb:p.2.ownBlock with
  | none=>exact h.full p hp hb
  | some x =>
    have h5:=(h2.lt x hb).2
    have h6:=(hv.lt x (by rw[← e,hb])).1
    omega
 refine ⟨(ho2.none g3).kept g4 (fun e=>hmm (by cases e;rfl)) hrm,hM,?_,?_,?_,?_,zae gw3 g4 (fun x e=>Or.inl (by cases e;exact n1)),h.new⟩
 ·intro j
  rw[List.mem_append,List.mem_singleton]
  constructor
  ·intro hj
   obtain ⟨p,hp,rfl⟩:=List.mem_map.1 hj
   rcases (za0 _ _ _).1 hp with rfl | ⟨h1,h2⟩
   ·exact Or.inr rfl
   ·exact Or.inl ((h.keys p.1).1 (List.mem_map.2 ⟨p,h1,rfl⟩))
  ·intro hj
   by_cases hji:j=i
   ·exact List.mem_map.2 ⟨_,(za0 _ _ _).2 (Or.inl rfl),hji.symm⟩
   ·rcases hj with hj | hj
    ·obtain ⟨p,hp,rfl⟩:=List.mem_map.1 ((h.keys j).2 hj)
     exact List.mem_map.2 ⟨p,(za0 _ _ _).2 (Or.inr ⟨hp,hji⟩),rfl⟩
    ·exact absurd hj hji
 ·intro p hp
  rcases (za0 _ _ _).1 hp with rfl | ⟨h1,h2⟩
  ·exact zd1 (hv.kept g4 (Or.inr fun e=>M3.own hv e.symm)) gw2.size
  ·exact (old p h1).1
 ·intro p hp q hq hpq
  rcases (za0 _ _ _).1 hp with rfl | ⟨h1,h2⟩
  ·rcases (za0 _ _ _).1 hq with rfl | ⟨h3,h4⟩
   ·exact absurd rfl hpq
   ·exact fun e=>(old q h3).2 e.symm
  ·rcases (za0 _ _ _).1 hq with rfl | ⟨h3,h4⟩
   ·exact (old p h1).2
   ·exact h.apart p h1 q h3 hpq
 ·intro p hp
  rcases (za0 _ _ _).1 hp with rfl | ⟨h1,h2⟩
  ·exact hvs
  ·exact h.full p h1
theorem zp4 {w wr w5 w6:World} {F:List Nat} {u d s c m m' r:Nat} {X:List Value} {ov:Value} {K:List (Nat × Value)} {D:Dsk} {done:List Nat} {K2:List (Nat × Value)} (h:DiskM u w F d s c m X ov K D) (hC:ClI w wr m m' r K D.U done K2) (hall:∀ x∈K.map (·.1),x∈done)
  {a5:Option Addr} {c5:Nat} {v6:Value} (ho5:w5.ownsRow wr.heap.size 95 256 (.slice a5 D.safe.length c5) D.safe.length (D.safe.flatMap secC)) (g5:wr.grownBy w5 none) (ho6:w6.ownsRow w5.heap.size 3 1 v6 D.U.length (D.U.map fun x=>keyN x.1)) (g6:w5.grownBy w6 none) :
  za4 w.heap.size (w6.alloc (.cells #[.slice a5 D.safe.length c5,v6,.map (some m'),.int .i64 D.left,.bool D.down] 77)) (w6.heap.size::m'::((Value.slice a5 D.safe.length c5).ownBlock.toList++(v6.ownBlock.toList++K2.filterMap (·.2.ownBlock)))) w6.heap.size D:=by
 have gA:w6.grownBy (w6.alloc (.cells #[.slice a5 D.safe.length c5,v6,.map (some m'),.int .i64 D.left,.bool D.down] 77)) none:=World.grownBy_alloc _ _ _
 have gall:=tn g6 gA
 have gwA:=tn (tn hC.gb g5) gall
 have hpos:=h.ok.pos
 rcases ho5.2 with ⟨_,h2⟩ | ⟨s',cap,cur,hv,hs',hh,h3,h4,h5,h6⟩
 ·omega
 ·injection hv with e1 _ e3
  subst e1 e3
  have hB5:Blk w5 s' 95 (D.safe.flatMap secC++cur.toList.drop (D.safe.length*256)):=by
   unfold Blk
   rw[hh,← h6,List.take_append_drop]
  refine ⟨s',c5,m',_,v6,K2,?_,hB5.kept gall (by simp),⟨h3,h4⟩,?_,⟨hC.map.none (tn g5 gall),?_,?_,hC.apart⟩,by simp,?_,by simp,?_,?_,?_,h.ok⟩
  ·exact Blk.new w6 77 [.slice (some ⟨s',0,none⟩) D.safe.length c5,v6,.map (some m'),.int .i64 D.left,.bool D.down]
  ·exact zd1 (ho6.kept gA (by cases v6.ownBlock <;> simp)) (Nat.le_trans hC.gb.size g5.size)
  ·intro i
   rw[hC.keys]
   constructor
   ·intro hi
    exact (h.und.keys i).1 (hC.over.inn i hi)
   ·intro hi
    exact hall i ((h.und.keys i).2 hi)
  ·intro p hp
   exact (hC.row p hp).kept (tn g5 gall) (by cases p.2.ownBlock <;> simp)
  ·simp[Value.ownBlock]
  ·intro b hb
   simp[hb]
  ·intro p hp b hb
   refine ⟨?_,fun e => ?_⟩
   ·have:b∈K2.filterMap (·.2.ownBlock):=List.mem_filterMap.2 ⟨p,hp,hb⟩
    simp only[List.mem_cons,List.mem_append]
    exact Or.inr (Or.inr (Or.inr (Or.inr this)))
   ·have:=((hC.row p hp).lt b hb).2
    omega
  ·intro x hx
   have hsz:w6.heap.size<(w6.alloc (.cells #[.slice (some ⟨s',0,none⟩) D.safe.length c5,v6,.map (some m'),.int .i64 D.left,.bool D.down] 77)).heap.size:=by simp
   have z1:=hC.gb.size
   have z2:=g5.size
   have z3:=g6.size
   simp only[List.mem_cons,List.mem_append,zjg,Option.toList_some,List.not_mem_nil,or_false] at hx
   rcases hx with rfl | rfl | rfl | hx | hx
   ·omega
   ·have:=hC.map.lt
    exact ⟨hC.new.1,by omega⟩
   ·have:=hB5.lt
    omega
   ·have:=ho6.lt x (by simpa using hx)
    omega
   ·obtain ⟨p,hp,hb⟩:=List.mem_filterMap.1 hx
    have:=(hC.row p hp).lt x hb
    omega
set_option maxRecDepth 100000 in
set_option maxHeartbeats 4000000 in
theorem zmd (u:Nat) (w:World) (F:List Nat) (d:Nat) (D:Dsk) (h:za4 u w F d D) (hU:D.U.length≤1000000) :
  Calls Tryz.prog 26 #[.pointer (some ⟨d,0,none⟩)] w fun e w'=>∃ d' F',e = .returned (.pointer (some ⟨d',0,none⟩))∧za4 w.heap.size w' F' d' D∧w.grownBy w' none:=by
 obtain ⟨s,c,m,X,ov,K,h⟩:=h
 have c1:=h.made
 obtain ⟨W1,hW1⟩:∃ W,W=w.alloc (.map #[] 0):=⟨_,rfl⟩
 have hmk:(Instr.makeMap 75 none).run Tryz.prog w = .ok (.map (some w.heap.size)) W1:=by rw[run_makeMap,hW1]
 have g1:w.grownBy W1 none:=by rw[hW1];exact zaf (zac _ _) _
 have hs1:W1.heap.size=w.heap.size+1:=by rw[hW1,World.size_alloc]
 have hM1:ImapAt W1 w.heap.size []:=by rw[hW1];exact ImapAt.new _
 obtain ⟨W2,hrg,hO2,g2⟩:=(h.und.map.none g1).over 75 74 Tryz.underlying75
 rw[hs1] at hO2 hrg
 have hc2:W1.cell? ⟨d,2,none⟩=some (.map (some m)):=g1.cell h.c2 (by simp)
 have hmm:m≠w.heap.size:=by have:=(h.low _ h.inM).2;omega
 have hst:ClI w W2 m w.heap.size (w.heap.size+1) K D.U [] []:=⟨hO2,hM1.none g2,(fun i=>by simp),(fun p hp=>by cases hp),(fun p hp=>by cases hp),(fun p hp=>by cases hp),tn g1 g2,by omega⟩
 have hll:=h.ok.pos
 have hsm:=h.ok.most
 obtain ⟨HST,HH,HU⟩:=zh3 hst h hU
 clear hst hO2 g2 hM1 g1 hW1 h hU
 go_enter Tryz.func26,Tryz.ntmps26
 go_wp2_with (go_at_call 44;refine c1.mono ?_;rintro e w2 ⟨rfl,e2⟩;subst w2;clear c1)
 go_loopg [] K.length (fun k wr=>∃ done K2,Hid (ClI w wr m w.heap.size (w.heap.size+1) K D.U done K2)∧K.length - done.length≤k)
 case atStart=>exact ⟨[],[],HST,by simp⟩
 case round =>
  obtain ⟨done,K2,HD,hk⟩:=hrel
  have HKK:=hide hk
  clear hk
  have hh2:=(uh HH).fr (Fr.none (uh HD).gb []) (fun _ _ e=>by cases e)
  rcases (uh HD).over.next 0 with ⟨hall,hr0⟩ | ⟨i,v,w2,hxv,hxd,hr0,hO2,he2,g2,-⟩
  ·have hnx:∀ ty,(Instr.next (.pointer (some ⟨w.heap.size+1,0,none⟩)) false ty).run Tryz.prog wr = .ok (.tuple #[.bool false]) wr:=fun ty=>hr0
   have hc0:=hh2.c0
   have hc1:=hh2.c1
   have hc3:=hh2.c3
   have hc4:=hh2.c4
   obtain ⟨ao,oc,hov⟩:=zh1 hh2.ord
   have hR:Rws wr 256 secC (some ⟨s,0,none⟩) c D.safe:=⟨(fun e=>by cases e),hh2.fits.1,hh2.fits.2,(fun ad e=>by cases e;rfl),fun ad e i hi=>by
    cases e
    rw[Nat.zero_add]
    exact ziy hh2.sec hh2.ok.wide i hi⟩
   obtain ⟨wd,hwd⟩:∃ W,W=wr.drew:=⟨_,rfl⟩
   have gd:wr.grownBy wd none:=by rw[hwd];exact zaa (zac _ _)
   have cs:=zf6 wd (some ⟨s,0,none⟩) c D.safe (hR.kept gd) hh2.ok.wide (by omega)
   have ci:∀ W,wr.grownBy W none→Calls Tryz.prog 49 #[ov] W fun e w'=>∃ v,e = .returned v∧w'.ownsRow W.heap.size 3 1 v D.U.length (D.U.map fun x=>keyN x.1)∧W.grownBy w' none:=fun W g=>zlr W u ov _ _ (hh2.ord.kept g (by cases ov.ownBlock <;> simp)) (zpj _) (uh HU)
   obtain ⟨n,hn⟩:∃ n,n=D.safe.length:=⟨_,rfl⟩
   obtain ⟨lf,hlf⟩:∃ l,l=D.left:=⟨_,rfl⟩
   obtain ⟨dn,hdn⟩:∃ b,b=D.down:=⟨_,rfl⟩
   have hfin:∀ w5 w6 a5 c5 v6,w5.ownsRow wr.heap.size 95 256 (.slice a5 D.safe.length c5) D.safe.length (D.safe.flatMap secC)→wr.grownBy w5 none→w6.ownsRow w5.heap.size 3 1 v6 D.U.length (D.U.map fun x=>keyN x.1)→w5.grownBy w6 none →
     (∃ d' F',w6.heap.size=d'∧za4 w.heap.size (w6.alloc (.cells #[.slice a5 D.safe.length c5,v6,.map (some w.heap.size),.int .i64 D.left,.bool D.down] 77)) F' d' D)∧w.grownBy (w6.alloc (.cells #[.slice a5 D.safe.length c5,v6,.map (some w.heap.size),.int .i64 D.left,.bool D.down] 77)) none:=fun w5 w6 a5 c5 v6 q1 q2 q3 q4 =>
    ⟨⟨_,_,rfl,zp4 (uh HH) (uh HD) hall q1 q2 q3 q4⟩,zaf (tn (tn (uh HD).gb q2) q4) _⟩
   rw[← hlf,← hdn,← hn] at hfin
   rw[← hn] at hc0 cs
   rw[← hlf] at hc3
   rw[← hdn] at hc4
   obtain ⟨HFIN,HWD,HGD⟩:=zh3 hfin hwd gd
   have hsw:wd.heap.size=wr.heap.size:=by rw[hwd];rfl
   have HSW:=hide hsw
   have h0:=zac wr none
   have HCI:=hide ci
   subst hov
   clear hr0 hall hfin hwd gd hR hn hlf hdn hh2 HKK HH HD hsw ci
   go_upto_region 8 with fail
   refine wp_region_noPanic ?_
   refine wp_region_held_drew (S:=fun V=>wr.grownBy V none) (by kernel_rfl) (by rw[← uh HWD];exact uh HGD) (fun _ => ?_)
   rw[← uh HWD]
   refine tq 0 24 (.move (.tmp 0)) ((.pointer (some ⟨d,0,none⟩))) (uh HGD) ?_
   refine tq 1 25 (.nilCheck (.tmp 24)) ((.pointer (some ⟨d,0,none⟩))) (uh HGD) ?_
   refine tq 2 26 (.fieldAddr 77 (.tmp 25) 0) ((.pointer (some ⟨d,0,none⟩))) (uh HGD) ?_
   refine tz 3 27 (.load 74 (.tmp 26)) ((.slice (some ⟨s,0,none⟩) n c)) (uh HGD) ?_ (y:=(Or.inl ⟨by rfl,fun V hV=>by (have hv2:=hV.cell hc0 (by simp);go_simp)⟩))
   (try simp only[pq])
   refine tq 5 29 (.move (.tmp 0)) ((.pointer (some ⟨d,0,none⟩))) (uh HGD) ?_
   refine tq 6 30 (.nilCheck (.tmp 29)) ((.pointer (some ⟨d,0,none⟩))) (uh HGD) ?_
   refine tq 7 31 (.fieldAddr 77 (.tmp 30) 1) ((.pointer (some ⟨d,1,none⟩))) (uh HGD) ?_
   refine tz 8 32 (.load 51 (.tmp 31)) ((.slice ao D.U.length oc)) (uh HGD) ?_ (y:=(Or.inl ⟨by rfl,fun V hV=>by (have hv2:=hV.cell hc1 (by simp);go_simp)⟩))
   (try simp only[pq])
   refine tq 10 34 (.move (.tmp 3)) ((.map (some w.heap.size))) (uh HGD) ?_
   refine tq 11 35 (.move (.tmp 0)) ((.pointer (some ⟨d,0,none⟩))) (uh HGD) ?_
   refine tq 12 36 (.nilCheck (.tmp 35)) ((.pointer (some ⟨d,0,none⟩))) (uh HGD) ?_
   refine tq 13 37 (.fieldAddr 77 (.tmp 36) 3) ((.pointer (some ⟨d,3,none⟩))) (uh HGD) ?_
   (try simp only[pq])
   refine tz 14 38 (.load 3 (.tmp 37)) ((.int .i64 lf)) (uh HGD) ?_ (y:=(Or.inl ⟨by rfl,fun V hV=>by (have hv2:=hV.cell hc3 (by simp);go_simp)⟩))
   refine tq 15 39 (.move (.tmp 0)) ((.pointer (some ⟨d,0,none⟩))) (uh HGD) ?_
   refine tq 16 40 (.nilCheck (.tmp 39)) ((.pointer (some ⟨d,0,none⟩))) (uh HGD) ?_
   refine tq 17 41 (.fieldAddr 77 (.tmp 40) 4) ((.pointer (some ⟨d,4,none⟩))) (uh HGD) ?_
   (try simp only[pq])
   refine tz 18 42 (.load 4 (.tmp 41)) ((.bool dn)) (uh HGD) ?_ (y:=(Or.inl ⟨by rfl,fun V hV=>by (have hv2:=hV.cell hc4 (by simp);go_simp)⟩))
   (try simp only[pq])
   refine rdq 4 (some 28) (.call { callee := .value (.func 48),args := #[(.tmp 27)],argTypes := #[74] }) (fun K9 hK9 => ?_)
   go_simp
   go_at_call 48
   refine cs.mono ?_
   rintro e w5 ⟨v5,rfl,ho5,g5⟩
   obtain ⟨a5,c5,rfl⟩:=zh1 ho5
   have HG5:=hide (tn (uh HGD) g5)
   have HO5:=hide (zd1 ho5 (Nat.le_of_eq (uh HSW).symm))
   clear cs ho5 g5
   go_wp2_with fail
   refine hK9.out _ _ (uh HG5) (fun _ => ?_)
   clear hK9 K9
   (try simp only[pq])
   refine rdq 9 (some 33) (.call { callee := .value (.func 49),args := #[(.tmp 32)],argTypes := #[51] }) (fun K9 hK9 => ?_)
   go_simp
   go_at_call 49
   refine (uh HCI w5 (uh HG5)).mono ?_
   rintro e w6 ⟨v6,rfl,ho6,g6⟩
   have HQ:=hide (uh HFIN w5 w6 a5 c5 v6 (uh HO5) (uh HG5) ho6 g6)
   obtain ⟨a6,c6,rfl⟩:=zh1 ho6
   have HG6:=hide (tn (uh HG5) g6)
   clear HCI HO5 HFIN ho6 g6
   go_wp2_with fail
   refine hK9.out _ _ (uh HG6) (fun _ => ?_)
   clear hK9 K9
   refine tq 19 43 (.build 77 #[(0,(.tmp 28)),(1,(.tmp 33)),(2,(.tmp 34)),(3,(.tmp 38)),(4,(.tmp 42))]) ((.agg #[.slice a5 n c5,.slice a6 D.U.length c6,.map (some w.heap.size),.int .i64 lf,.bool dn])) (uh HG6) ?_
   (try simp only[pq])
   refine rdq 20 (some 44) (.box 77 (.tmp 43)) (fun K9 hK9 => ?_)
   go_simp
   refine hK9.out _ _ (zaf (uh HG6) _) (fun _ => ?_)
   clear hK9 K9
   refine tq 21 2 (.assign (.tmp 44)) ((.pointer (some ⟨w6.heap.size,0,none⟩))) (zaf (uh HG6) _) ?_
   (try simp only[pq])
   refine wpAnyH_done (by kernel_rfl) ?_ _
   refine NoPanic.normal ?_
   go_wp2
   go_ret
   obtain ⟨⟨d',F',e1,q1⟩,q2⟩:=uh HQ
   exact ⟨_,F',rfl,by rw[e1];exact q1,q2⟩
  ·have hnx:∀ ty,(Instr.next (.pointer (some ⟨w.heap.size+1,0,none⟩)) false ty).run Tryz.prog wr = .ok (.tuple #[.bool true,keyN i,v]) w2:=fun ty=>hr0
   have hrow:=(uh HH).und.row _ hxv
   simp only at hrow
   have hne:zay D.U i≠[]:=zcw.2 (((uh HH).und.keys i).1 (List.mem_map.2 ⟨_,hxv,rfl⟩))
   have hw256:∀ x∈zay D.U i,x.length=256:=fun x hx=>((uh HH).ok.inn _ (zc7 hx)).2
   obtain ⟨ao,cc,rfl,hR,-⟩:=Rws.own secC hrow (fun x hx=>by rw[zbe];exact hw256 x hx)
   have gw2:w.grownBy w2 none:=zae (uh HD).gb g2 (fun x e=>Or.inl (by cases e;omega))
   have cs:=zf6 w2 ao cc (zay D.U i) (hR.kept gw2) hw256 (Nat.le_trans (zfw _ _) (uh HU))
   obtain ⟨HO2,HG2,HNE,HXD⟩:=zh4 hO2 g2 hne hxd
   obtain ⟨n,hn⟩:∃ n,n=(zay D.U i).length:=⟨_,rfl⟩
   have HN:=hide hn
   rw[← hn] at cs he2 hnx
   unfold keyN at he2 hnx
   clear hO2 g2 hrow hR gw2 hw256 hxv hxd hr0 hne hn hh2
   have hnew:=(uh HD).new
   have M2:=(uh HD).map.kept (uh HG2) (fun e=>hnew.2.2 (by injection e))
   go_wp2_with (go_at_call 48;refine cs.mono ?_;rintro e w3 ⟨v3,rfl,ho3,g3⟩
                obtain ⟨w4,hup,hM4,g4,-⟩:=(M2.none g3).store 75 74 Tryz.underlying75 i v3
                unfold keyN at hup
                have hv3:v3.ownBlock≠none:=fun e=>by
                 rcases ho3.2 with ⟨_,h9⟩ | ⟨p,cap,cur,hv,_⟩
                 ·exact uh HNE (List.eq_nil_of_length_eq_zero (by rw[← uh HN];exact h9))
                 ·rw[hv] at e;cases e
                rw[uh HN] at ho3
                have HST4:=hide ((uh HD).step (uh HO2) (uh HG2) ho3 hv3 g3 hM4 g4 hmm)
                clear ho3 hM4 g4 hv3 g3 cs)
   go_roundg (K.length - (done++[i]).length)
   case measure =>
    have h1:=uh HKK
    have h2:=zji (uh HST4).over.nodup (uh HST4).over.inn
    simp only[List.length_append,List.length_cons,List.length_nil,List.length_map] at h2 ⊢
    omega
   case rel=>exact ⟨done++[i],_,HST4,Nat.le_refl _⟩
end Go.Proofs.YtoilcpdhhlcidaaGreatDoor
