/- Lemmas. -/
import Derived.Test.YtoilcpdhhlcidaaGreatDoorDkC
import Derived.Deep.DeepCutAuto
import Derived.Deep.CutBlock
import Derived.Shelf.Abstract
namespace Go.Proofs.YtoilcpdhhlcidaaGreatDoor
open Go.RowKit
set_option maxRecDepth 100000
def NewT (w w' : World) (v:Value) (x:List UInt8):Prop:=∃ ao c,v = .slice ao x.length c∧Bts w' ao c x∧∀ ad,ao=some ad→w.heap.size≤ad.block
theorem NewT.nil (w w' : World):NewT w w' (.slice none 0 0) []:=⟨none,0,rfl,Bts.nil _,fun _ e=>by cases e⟩
theorem zgj (b:Nat) (W:World):(Instr.sliceAt 95 (.pointer (some ⟨b,0,none⟩)) none none none).run Tryz.prog W = .ok (.slice (some ⟨b,0,none⟩) 256 256) W:=by
 have ea:Tryz.prog.arrayLen 95=256:=by simp[Program.arrayLen,Tryz.underlying95]
 have ee:Tryz.prog.elem 95=5:=by simp[Program.elem,Tryz.underlying95]
 rw[run_sliceAt_array_all W 95 ⟨b,0,none⟩ (by rw[ea,ee];exact Tryz.underlying95),ea,ee,za2]
 simp only[Result.andThen_ok,slicedAt,Nat.zero_mul,Nat.sub_zero]
 rw[if_neg (by omega),Addr.add_mid]
set_option maxHeartbeats 2000000 in
theorem zr9 (w:World) (d s n c:Nat) (h1:w.cell? ⟨d,0,none⟩=some (.slice (some ⟨s,0,none⟩) n c)) (i:Int) (hi:¬ (0≤i∧i<(n:Int))) (g:Value) :
  Calls Tryz.prog 51 #[.pointer (some ⟨d,0,none⟩),.int .i64 i,g] w fun e w'=>e = .returned (.tuple #[.slice none 0 0,.int .i64 2])∧w'=w:=by
 have ch:=zhq w d s n c h1 i
 rw[decide_eq_false hi] at ch
 clear hi h1
 go_enter Tryz.func51,Tryz.ntmps51
 go_wp2_with (go_at_call 70;refine ch.mono ?_;rintro e w2 ⟨rfl,e2⟩;subst w2;clear ch)
 go_ret2
 exact ⟨rfl,rfl⟩
set_option maxHeartbeats 2000000 in
theorem zrn (w:World) (d s n c:Nat) (h1:w.cell? ⟨d,0,none⟩=some (.slice (some ⟨s,0,none⟩) n c)) (i:Nat) (hi:i<n) (g:Nat) (T:List UInt8) (hT:T.length=256)
  (eg:∀ args w,(callFunc g args).run Tryz.prog w = .ok (.enter g args) w) (cg:Calls Tryz.prog g #[.pointer (some ⟨d,0,none⟩),.int .i64 (i:Int)] w fun e w'=>e = .returned (.agg (secC T).toArray)∧w.grownBy w' none) :
  Calls Tryz.prog 51 #[.pointer (some ⟨d,0,none⟩),.int .i64 (i:Int),.func (.func g) #[] #[]] w fun e w'=>∃ v,e = .returned (.tuple #[v,.int .i64 0])∧NewT w w' v T∧w.grownBy w' none:=by
 have ch:=zhq w d s n c h1 i
 rw[decide_eq_true (show 0≤(i:Int)∧(i:Int)<(n:Int) by omega)] at ch
 obtain ⟨Z,hZ,hzv⟩:=zei
 obtain ⟨EB,hEB⟩:∃ EB,EB=secC T:=⟨_,rfl⟩
 have hEl:EB.length=256:=by rw[hEB,zbe,hT]
 have hEo:EB.toArray.all (·.oneCell')=true:=by rw[hEB];exact all_oneCell_toArray (zeh _)
 have hiE2:(Tryz.prog.info? 95).map (·.size)=some EB.toArray.size:=by rw[List.size_toArray,hEl];exact zdg
 have hZE:Z.toList.toArray.size=EB.toArray.size:=by simp[hZ,hEl]
 rw[← hEB] at cg
 obtain ⟨HIE2,HZE,HEO,HEB⟩:=zh4 hiE2 hZE hEo hEB
 have hss:=zgj
 clear hiE2 hZE hEo hEB hEl hZ h1 hi
 go_enter Tryz.func51,Tryz.ntmps51
 go_upto_region 3 with (go_at_call 70;refine ch.mono ?_;rintro e w2 ⟨rfl,e2⟩;subst w2;clear ch)
 go_wp2_with fail
 refine cg.mono ?_
 rintro e w2 ⟨rfl,g2⟩
 clear cg
 obtain ⟨W5,hW5,hB5,g5⟩:=zbu w2 95 Z EB
 have hBZ:Blk (w2.alloc (.cells Z 95)) w2.heap.size 95 Z.toList:=by simpa using Blk.new w2 95 Z.toList
 have hfin:NewT w W5 (.slice (some ⟨w2.heap.size,0,none⟩) 256 256) T:=by
  refine ⟨_,_,by rw[hT],?_,fun ad e=>by cases e;exact g2.size⟩
  have:=zcn (zan (by rw[uh HEB] at hB5;exact hB5)) (by unfold maxLen;omega)
  rw[hT] at this
  exact this
 have HF:=hide hfin
 have HG:=hide (tn g2 g5)
 obtain ⟨HBZ,HW5⟩:=zh2 hBZ hW5
 clear hfin hBZ hW5 hB5 g5 g2 HEB hT
 go_wp2_with (have hB9:=uh HBZ;refine wpList_store_row rfl 95 _ _ rfl w2.heap.size EB.toArray rfl rfl _ _ hB9 (uh HIE2) (uh HZE) (uh HEO) ?_;clear hB9;rw[← uh HW5])
 go_ret2
 exact ⟨_,rfl,uh HF,uh HG⟩
theorem zl9:∀ args w,(callFunc 52 args).run Tryz.prog w = .ok (.enter 52 args) w:=fun args w=>by exact enters_of Tryz.func52 (by kernel_rfl) rfl args w
def zsq (w w' : World) (e:Ending) (r:List UInt8 × Int):Prop:=∃ v,e = .returned (.tuple #[v,.int .i64 r.2])∧NewT w w' v r.1
set_option maxHeartbeats 2000000 in
theorem zod (u:Nat) (w:World) (F:List Nat) (d:Nat) (D:Dsk) (h:za4 u w F d D) (i:Int) (hU:D.U.length≤1000000) :
  Calls Tryz.prog 27 #[.pointer (some ⟨d,0,none⟩),.int .i64 i] w fun e w'=>zsq w w' e (rdD D i)∧w.grownBy w' none:=by
 obtain ⟨s,c,m,X,ov,K,h⟩:=h
 have c1:=zde u w F d s c m X ov K D h
 by_cases hd:D.down=true
 ·have e1:rdD D i=([],17):=by unfold rdD;rw[if_pos hd]
  rw[e1]
  rw[if_pos hd] at c1
  clear hd e1 h
  go_enter Tryz.func27,Tryz.ntmps27
  go_wp2_with (go_at_call 50;refine c1.mono ?_;rintro e w2 ⟨rfl,e2⟩;subst w2;clear c1)
  go_ret2
  exact ⟨⟨_,rfl,NewT.nil _ _⟩,zac _ _⟩
 ·rw[if_neg hd] at c1
  by_cases hi:hasD D i=true
  ·obtain ⟨h2,h3⟩:=zhl hi
   have e1:rdD D i=(zhk D i.toNat,0):=by unfold rdD;rw[if_neg hd,if_pos hi]
   rw[e1]
   obtain ⟨j,hj⟩:∃ j,j=i.toNat:=⟨_,rfl⟩
   rw[← hj] at h2 h3 ⊢
   subst h3
   have ca:=zrn w d s _ c h.c0 j h2 52 _ (zii h.ok h2) zl9 (znf u w F d s c m X ov K D h j h2 hU)
   clear hi e1 hj h h2 hd
   go_enter Tryz.func27,Tryz.ntmps27
   go_upto_region 4 with (go_at_call 50;refine c1.mono ?_;rintro e w2 ⟨rfl,e2⟩;subst w2;clear c1)
   go_wp2_with fail
   refine ca.mono ?_
   rintro e w2 ⟨v,rfl,hv,g2⟩
   clear ca
   go_wp2
   go_ret2
   exact ⟨⟨v,rfl,hv⟩,g2⟩
  ·have e1:rdD D i=([],2):=by unfold rdD;rw[if_neg hd,if_neg hi]
   rw[e1]
   rw[zeb] at hi
   have ca:=zr9 w d s _ c h.c0 i hi (.func (.func 52) #[] #[])
   clear hi e1 h hd
   go_enter Tryz.func27,Tryz.ntmps27
   go_upto_region 4 with (go_at_call 50;refine c1.mono ?_;rintro e w2 ⟨rfl,e2⟩;subst w2;clear c1)
   go_wp2_with fail
   refine ca.mono ?_
   rintro e w2 ⟨rfl,e2⟩
   subst w2
   clear ca
   go_wp2
   go_ret2
   exact ⟨⟨_,rfl,NewT.nil _ _⟩,zac _ _⟩
structure DiskG (u:Nat) (w:World) (F:List Nat) (d s c m:Nat) (X:List Value) (ov:Value) (K:List (Nat × Value)) (S:List (List UInt8)) (O:List Nat) (U:List (Nat × List UInt8)) (l:Int) (b:Bool):Prop where
 blk:Blk w d 77 [.slice (some ⟨s,0,none⟩) S.length c,ov,.map (some m),.int .i64 l,.bool b]
 sec:Blk w s 95 (S.flatMap secC++X)
 fits:S.length≤c∧c≤maxLen
 ord:w.ownsRow u 3 1 ov O.length (O.map keyN)
 und:Und u w m K U
 inD:d∈F
 inS:s∈F
 inM:m∈F
 inO:∀ b,ov.ownBlock=some b→b∈F
 inK:∀ p∈K,∀ b,p.2.ownBlock=some b→b∈F∧b≠s
 low:∀ x∈F,u≤x∧x<w.heap.size
theorem DiskM.g {u:Nat} {w:World} {F:List Nat} {d s c m:Nat} {X:List Value} {ov:Value} {K:List (Nat × Value)} {D:Dsk} (h:DiskM u w F d s c m X ov K D):DiskG u w F d s c m X ov K D.safe (D.U.map (·.1)) D.U D.left D.down :=
 ⟨h.blk,h.sec,h.fits,by have:=h.ord;simpa[Function.comp_def] using this,h.und,h.inD,h.inS,h.inM,h.inO,h.inK,h.low⟩
theorem DiskG.m {u:Nat} {w:World} {F:List Nat} {d s c m:Nat} {X:List Value} {ov:Value} {K:List (Nat × Value)} {D:Dsk} (h:DiskG u w F d s c m X ov K D.safe (D.U.map (·.1)) D.U D.left D.down) (ok:D.Ok):DiskM u w F d s c m X ov K D :=
 ⟨h.blk,h.sec,h.fits,by have:=h.ord;simpa[Function.comp_def] using this,h.und,h.inD,h.inS,h.inM,h.inO,h.inK,h.low,ok⟩
theorem DiskG.fr {u:Nat} {w a:World} {F G:List Nat} {d s c m:Nat} {X:List Value} {ov:Value} {K:List (Nat × Value)} {S:List (List UInt8)} {O:List Nat} {U:List (Nat × List UInt8)} {l:Int} {b:Bool} (h:DiskG u w F d s c m X ov K S O U l b) (g:Fr w a G) (hG:∀ x∈F,x∉G):DiskG u a F d s c m X ov K S O U l b :=
 ⟨g.blk h.blk (hG _ h.inD),g.blk h.sec (hG _ h.inS),h.fits,g.own h.ord (fun b hb=>hG _ (h.inO b hb)),h.und.fr g (hG _ h.inM) (fun p hp b hb=>hG _ (h.inK p hp b hb).1),h.inD,h.inS,h.inM,h.inO,h.inK,fun x hx=>⟨(h.low x hx).1,Nat.lt_of_lt_of_le (h.low x hx).2 g.size⟩⟩
theorem DiskG.nn {u:Nat} {w a:World} {F:List Nat} {d s c m:Nat} {X:List Value} {ov:Value} {K:List (Nat × Value)} {S:List (List UInt8)} {O:List Nat} {U:List (Nat × List UInt8)} {l:Int} {b:Bool} (h:DiskG u w F d s c m X ov K S O U l b) (g:w.grownBy a Option.none):DiskG u a F d s c m X ov K S O U l b:=h.fr (Fr.none g []) (fun _ _ e=>by cases e)
theorem zjg (g n c:Nat):(Value.slice (some ⟨g,0,none⟩) n c).ownBlock=some g:=rfl
theorem DiskG.ordered {u:Nat} {w w5:World} {F:List Nat} {d s c m:Nat} {X:List Value} {ov:Value} {K:List (Nat × Value)} {S:List (List UInt8)} {O:List Nat} {U:List (Nat × List UInt8)} {l:Int} {b:Bool} (h:DiskG u w F d s c m X ov K S O U l b) {g cap i:Nat}
  (ho:w5.ownsRow u 3 1 (.slice (some ⟨g,0,none⟩) (O.length+1) cap) (O.length+1) (O.map keyN++[keyN i])) (g5:w.grownBy w5 ov.ownBlock) (hg:ov.ownBlock=some g∨g=w.heap.size) (hlt:g<w5.heap.size) :
  DiskG u (w5.setCell ⟨d,1,none⟩ (.slice (some ⟨g,0,none⟩) (O.length+1) cap)) (g::F) d s c m X (.slice (some ⟨g,0,none⟩) (O.length+1) cap) K S (O++[i]) U l b ∧
   Fr w (w5.setCell ⟨d,1,none⟩ (.slice (some ⟨g,0,none⟩) (O.length+1) cap)) F∧(g∈F∨w.heap.size≤g):=by
 have n1:some d≠ov.ownBlock:=zap h.ord h.blk (by decide)
 have n2:some s≠ov.ownBlock:=zap h.ord h.sec (by decide)
 have n3:some m≠ov.ownBlock:=h.und.map.own h.ord
 have B5:=h.blk.kept g5 n1
 have g6:=zbs w5 d 1 (.slice (some ⟨g,0,none⟩) (O.length+1) cap)
 have nsd:s≠d:=(zmx h.blk h.sec (by decide)).symm
 have nmd:m≠d:=h.und.map.blk h.blk
 have U5:Und u w5 m K U:=h.und.kept g5 n3 (fun p hp b hb e=>by
  rcases zcz (h.und.row p hp) h.ord (by decide) with h1 | h1
  ·rw[hb] at h1;cases h1
  ·exact h1 (by rw[hb,e]))
 refine ⟨⟨B5.set 1 _,(h.sec.kept g5 n2).kept g6 (fun e=>nsd (by cases e;rfl)),h.fits,?_,?_,by simp[h.inD],by simp[h.inS],by simp[h.inM],?_,?_,?_⟩,?_⟩
 ·rw[List.length_append,List.map_append]
  exact ho.kept g6 (Or.inr fun e=>zap ho B5 (by decide) e.symm)
 ·exact U5.kept g6 (fun e=>nmd (by cases e;rfl)) (fun p hp b hb e=>zap (U5.row p hp) B5 (by decide) (by rw[hb];exact e.symm))
 ·intro b hb
  rw[zjg] at hb
  cases hb
  simp
 ·intro p hp b hb
  exact ⟨List.mem_cons_of_mem _ (h.inK p hp b hb).1,(h.inK p hp b hb).2⟩
 ·intro x hx
  have hsz:w5.heap.size=(w5.setCell ⟨d,1,none⟩ (.slice (some ⟨g,0,none⟩) (O.length+1) cap)).heap.size:=by simp[World.setCell]
  rcases List.mem_cons.1 hx with rfl | hx
  ·exact ⟨(ho.lt _ rfl).1,by rw[← hsz];exact hlt⟩
  ·exact ⟨(h.low x hx).1,by rw[← hsz];exact Nat.lt_of_lt_of_le (h.low x hx).2 g5.size⟩
 ·exact ⟨(Fr.of g5 (fun x e=>Or.inl (h.inO x e))).then g6 (fun x e=>Or.inl (by cases e;exact h.inD)),by
   rcases hg with h1 | h1
   ·exact Or.inl (h.inO g h1)
   ·exact Or.inr (Nat.le_of_eq h1.symm)⟩
theorem DiskG.rowOff {u:Nat} {w:World} {F:List Nat} {d s c m:Nat} {X:List Value} {ov:Value} {K:List (Nat × Value)} {S:List (List UInt8)} {O:List Nat} {U:List (Nat × List UInt8)} {l:Int} {b:Bool} (h:DiskG u w F d s c m X ov K S O U l b) (i:Nat) {x:Nat} (hx:((getI K i).getD (.slice none 0 0)).ownBlock=some x):x∈F∧x≠s∧x≠d∧x≠m:=by
 cases hk:getI K i with
 | none=>rw[hk,Option.getD_none] at hx;cases hx
 | some v =>
   rw[hk,Option.getD_some] at hx
   have hp:=zeg hk
   have h1:=h.inK _ hp x hx
   refine ⟨h1.1,h1.2,fun e => ?_,fun e => ?_⟩
   ·subst e
    exact zap (h.und.row _ hp) h.blk (by decide) hx.symm
   ·subst e
    exact h.und.map.own (h.und.row _ hp) hx.symm
theorem DiskG.rowOwn {u:Nat} {w:World} {F:List Nat} {d s c m:Nat} {X:List Value} {ov:Value} {K:List (Nat × Value)} {S:List (List UInt8)} {O:List Nat} {U:List (Nat × List UInt8)} {l:Int} {b:Bool} (h:DiskG u w F d s c m X ov K S O U l b) (i:Nat):w.ownsRow u 95 256 ((getI K i).getD (.slice none 0 0)) (zay U i).length ((zay U i).flatMap secC):=by
 cases hk:getI K i with
 | none =>
   have hi:i∉K.map (·.1):=fun hm=>by have:=(zc2 K i).2 hm;rw[hk] at this;cases this
   have:zay U i=[]:=Classical.byContradiction fun hne=>hi ((h.und.keys i).2 (zcw.1 hne))
   rw[this]
   exact World.ownsRow_nil _ _ _ _
 | some v=>exact h.und.row _ (zeg hk)
theorem DiskG.under {u:Nat} {w w8 w9:World} {F:List Nat} {d s c m:Nat} {X:List Value} {ov:Value} {K:List (Nat × Value)} {S:List (List UInt8)} {O:List Nat} {U:List (Nat × List UInt8)} {l:Int} {b:Bool} (h:DiskG u w F d s c m X ov K S O U l b) {g cap i:Nat} {t:List UInt8} {n:Nat}
  (ho:w8.ownsRow u 95 256 (.slice (some ⟨g,0,none⟩) (n+1) cap) (n+1) ((zay U i++[t]).flatMap secC)) (hn:n=(zay U i).length) (g8:w.grownBy w8 ((getI K i).getD (.slice none 0 0)).ownBlock) (hg:((getI K i).getD (.slice none 0 0)).ownBlock=some g∨g=w.heap.size) (hlt:g<w8.heap.size)
  (hM:ImapAt w9 m (putI K i (.slice (some ⟨g,0,none⟩) (n+1) cap))) (g9:w8.grownBy w9 (some m)) :
  DiskG u w9 (g::F) d s c m X ov (putI K i (.slice (some ⟨g,0,none⟩) (n+1) cap)) S O (U++[(i,t)]) l b∧Fr w w9 F∧(g∈F∨w.heap.size≤g):=by
 obtain ⟨v,hv⟩:∃ v,v=(getI K i).getD (.slice none 0 0):=⟨_,rfl⟩
 rw[← hv] at g8 hg
 have hvo:∀ x,v.ownBlock=some x→∃ p∈K,p.1=i∧p.2=v:=by
  intro x hx
  cases hk:getI K i with
  | none=>rw[hk,Option.getD_none] at hv;rw[hv] at hx;cases hx
  | some v'=>rw[hk,Option.getD_some] at hv;exact ⟨(i,v'),zeg hk,rfl,hv.symm⟩
 have hvt:∀ {r:Nat} {t' : TypeId} {cs:List Value},Blk w r t' cs→t'≠95→some r≠v.ownBlock:=by
  intro r t' cs hB ht e
  obtain ⟨p,hp,_,e2⟩:=hvo r e.symm
  exact zap (h.und.row p hp) hB (Ne.symm ht) (by rw[e2];exact e)
 have nd:some d≠v.ownBlock:=hvt h.blk (by decide)
 have ns:some s≠v.ownBlock:=fun e=>by
  obtain ⟨p,hp,_,e2⟩:=hvo s e.symm
  exact (h.inK p hp s (by rw[e2];exact e.symm)).2 rfl
 have nm:some m≠v.ownBlock:=fun e=>by
  obtain ⟨p,hp,_,e2⟩:=hvo m e.symm
  exact h.und.map.own (h.und.row p hp) (by rw[e2];exact e)
 have mdl:∀ {r:Nat} {t' : TypeId} {cs:List Value},Blk w r t' cs→some r≠some m:=fun hB e=>h.und.map.blk hB (by cases e;rfl)
 have hF:Fr w w9 F:=(Fr.of g8 (fun x e=>by
  obtain ⟨p,hp,_,e2⟩:=hvo x e
  exact Or.inl (h.inK p hp x (by rw[e2];exact e)).1)).then g9 (fun x e=>Or.inl (by cases e;exact h.inM))
 have M8:ImapAt w8 m K:=h.und.map.kept g8 nm
 have others:∀ p∈K,p.1≠i→p.2.ownBlock≠some g∧w9.ownsRow u 95 256 p.2 (zay U p.1).length ((zay U p.1).flatMap secC):=by
  intro p hp hpi
  have hpv:p.2.ownBlock=Option.none∨p.2.ownBlock≠v.ownBlock:=by
   cases hb:v.ownBlock with
   | none =>
     cases hb2:p.2.ownBlock with
     | none=>exact Or.inl rfl
     | some y=>exact Or.inr (by simp)
   | some x =>
     obtain ⟨q,hq,e1,e2⟩:=hvo x hb
     have:=h.und.apart p hp q hq (by rw[e1];exact hpi)
     rw[e2,hb] at this
     exact Or.inr this
  refine ⟨fun e => ?_,?_⟩
  ·rcases hg with h1 | h1
   ·rcases hpv with h2 | h2
    ·rw[e] at h2;cases h2
    ·exact h2 (by rw[e,h1])
   ·have:=((h.und.row p hp).lt g e).2
    omega
  ·have h8:=(h.und.row p hp).kept g8 hpv
   exact h8.kept g9 (by
    cases hb:p.2.ownBlock with
    | none=>exact Or.inl rfl
    | some y=>exact Or.inr fun e=>M8.own h8 (by rw[hb,e]))
 have hkeys:∀ j,j∈(putI K i (.slice (some ⟨g,0,none⟩) (n+1) cap)).map (·.1)↔j∈(U++[(i,t)]).map (·.1):=by
  intro j
  rw[List.map_append,List.mem_append]
  constructor
  ·intro hj
   obtain ⟨p,hp,rfl⟩:=List.mem_map.1 hj
   rcases (za0 _ _ _).1 hp with rfl | ⟨h1,_⟩
   ·exact Or.inr (by simp)
   ·exact Or.inl ((h.und.keys _).1 (List.mem_map.2 ⟨p,h1,rfl⟩))
  ·intro hj
   by_cases hji:j=i
   ·exact List.mem_map.2 ⟨(i,.slice (some ⟨g,0,none⟩) (n+1) cap),(za0 _ _ _).2 (Or.inl rfl),hji.symm⟩
   ·rcases hj with hj | hj
    ·obtain ⟨p,hp,rfl⟩:=List.mem_map.1 ((h.und.keys j).2 hj)
     exact List.mem_map.2 ⟨p,(za0 _ _ _).2 (Or.inr ⟨hp,hji⟩),rfl⟩
    ·exact absurd (by simpa using hj) hji
 refine ⟨⟨(h.blk.kept g8 nd).kept g9 (mdl h.blk),(h.sec.kept g8 ns).kept g9 (mdl h.sec),h.fits,?_,⟨hM,hkeys,?_,?_⟩,by simp[h.inD],by simp[h.inS],by simp[h.inM],fun b hb=>List.mem_cons_of_mem _ (h.inO b hb),?_,?_⟩,hF,by
  rcases hg with h1 | h1
  ·obtain ⟨p,hp,_,e2⟩:=hvo g h1
   exact Or.inl (h.inK p hp g (by rw[e2];exact h1)).1
  ·exact Or.inr (Nat.le_of_eq h1.symm)⟩
 ·have h8:=h.ord.kept g8 (by
   cases hb:v.ownBlock with
   | none =>
     cases hb2:ov.ownBlock with
     | none=>exact Or.inl rfl
     | some y=>exact Or.inr (by simp)
   | some x =>
     obtain ⟨q,hq,e1,e2⟩:=hvo x hb
     have:=zcz h.ord (h.und.row q hq) (by decide)
     rw[e2,hb] at this
     exact this)
  exact h8.kept g9 (by
   cases hb:ov.ownBlock with
   | none=>exact Or.inl rfl
   | some y=>exact Or.inr fun e=>M8.own h8 (by rw[hb,e]))
 ·intro p hp
  rcases (za0 _ _ _).1 hp with rfl | ⟨h1,h2⟩
  ·simp only
   rw[zgv,if_pos rfl,List.length_append,← hn]
   exact ho.kept g9 (Or.inr fun e=>M8.own ho (by rw[e]))
  ·rw[zgv,if_neg (fun e=>h2 e.symm)]
   exact (others p h1 h2).2
 ·intro p hp q hq hpq
  rcases (za0 _ _ _).1 hp with rfl | ⟨h1,h2⟩
  ·rcases (za0 _ _ _).1 hq with rfl | ⟨h3,h4⟩
   ·exact absurd rfl hpq
   ·rw[zjg]
    exact fun e=>(others q h3 h4).1 e.symm
  ·rcases (za0 _ _ _).1 hq with rfl | ⟨h3,h4⟩
   ·rw[zjg]
    exact (others p h1 h2).1
   ·exact h.und.apart p h1 q h3 hpq
 ·intro p hp b hb
  rcases (za0 _ _ _).1 hp with rfl | ⟨h1,h2⟩
  ·rw[zjg] at hb
   cases hb
   refine ⟨by simp,fun e => ?_⟩
   subst e
   rcases hg with h3 | h3
   ·exact ns h3.symm
   ·have:=(h.low _ h.inS).2
    omega
  ·exact ⟨List.mem_cons_of_mem _ (h.inK p h1 b hb).1,(h.inK p h1 b hb).2⟩
 ·intro x hx
  rcases List.mem_cons.1 hx with rfl | hx
  ·exact ⟨(ho.lt _ rfl).1,Nat.lt_of_lt_of_le hlt g9.size⟩
  ·exact ⟨(h.low x hx).1,Nat.lt_of_lt_of_le (h.low x hx).2 hF.size⟩
end Go.Proofs.YtoilcpdhhlcidaaGreatDoor
