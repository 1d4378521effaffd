/- Lemmas. -/
import Derived.Test.YtoilcpdhhlcidaaGreatDoorDkS
import Derived.Great.BuildSlice
import Derived.Test.YtoilcpdhhlcidaaGreatDoorMTk
namespace Go.Proofs.YtoilcpdhhlcidaaGreatDoor
open Go.RowKit
structure DiskG (u:Nat) (w:World) (F:List Nat) (d s c m:Nat) (X:List Value) (ov:Value) (K:List (Nat × Value)) (S:List (List UInt8)) (O:List Nat) (U:List (Nat × List UInt8)) (l:Int) (b:Bool):Prop where
 blk:Blk w d 77 [.slice (some ⟨s,0,none⟩) S.length c,ov,.map (some m),.int .i64 l,.bool b]
 sec:Blk w s 95 (S.flatMap secC++X)
 fits:S.length≤c∧c≤maxLen
 ord:w.ownsRow u 3 1 ov O.length (O.map keyN)
 und:Und u w m K U
 inD:d∈F
 inS:s∈F
 inM:m∈F
 inO:∀ b,ov.ownBlock=some b→b∈F
 inK:∀ p∈K,∀ b,p.2.ownBlock=some b→b∈F∧b≠s
 low:∀ x∈F,u≤x∧x<w.heap.size
theorem DiskM.g {u:Nat} {w:World} {F:List Nat} {d s c m:Nat} {X:List Value} {ov:Value} {K:List (Nat × Value)} {D:Dsk} (h:DiskM u w F d s c m X ov K D):DiskG u w F d s c m X ov K D.safe (D.U.map (·.1)) D.U D.left D.down :=
 ⟨h.blk,h.sec,h.fits,by have:=h.ord;simpa[Function.comp_def] using this,h.und,h.inD,h.inS,h.inM,h.inO,h.inK,h.low⟩
theorem DiskG.m {u:Nat} {w:World} {F:List Nat} {d s c m:Nat} {X:List Value} {ov:Value} {K:List (Nat × Value)} {D:Dsk} (h:DiskG u w F d s c m X ov K D.safe (D.U.map (·.1)) D.U D.left D.down) (ok:D.Ok):DiskM u w F d s c m X ov K D :=
 ⟨h.blk,h.sec,h.fits,by have:=h.ord;simpa[Function.comp_def] using this,h.und,h.inD,h.inS,h.inM,h.inO,h.inK,h.low,ok⟩
theorem DiskG.fr {u:Nat} {w a:World} {F G:List Nat} {d s c m:Nat} {X:List Value} {ov:Value} {K:List (Nat × Value)} {S:List (List UInt8)} {O:List Nat} {U:List (Nat × List UInt8)} {l:Int} {b:Bool} (h:DiskG u w F d s c m X ov K S O U l b) (g:Fr w a G) (hG:∀ x∈F,x∉G):DiskG u a F d s c m X ov K S O U l b :=
 ⟨g.blk h.blk (hG _ h.inD),g.blk h.sec (hG _ h.inS),h.fits,g.own h.ord (fun b hb=>hG _ (h.inO b hb)),h.und.fr g (hG _ h.inM) (fun p hp b hb=>hG _ (h.inK p hp b hb).1),h.inD,h.inS,h.inM,h.inO,h.inK,fun x hx=>⟨(h.low x hx).1,Nat.lt_of_lt_of_le (h.low x hx).2 g.size⟩⟩
theorem DiskG.nn {u:Nat} {w a:World} {F:List Nat} {d s c m:Nat} {X:List Value} {ov:Value} {K:List (Nat × Value)} {S:List (List UInt8)} {O:List Nat} {U:List (Nat × List UInt8)} {l:Int} {b:Bool} (h:DiskG u w F d s c m X ov K S O U l b) (g:w.grownBy a Option.none):DiskG u a F d s c m X ov K S O U l b:=h.fr (Fr.none g []) (fun _ _ e=>by cases e)
theorem zjz (g n c:Nat):(Value.slice (some ⟨g,0,none⟩) n c).ownBlock=some g:=rfl
theorem DiskG.ordered {u:Nat} {w w5:World} {F:List Nat} {d s c m:Nat} {X:List Value} {ov:Value} {K:List (Nat × Value)} {S:List (List UInt8)} {O:List Nat} {U:List (Nat × List UInt8)} {l:Int} {b:Bool} (h:DiskG u w F d s c m X ov K S O U l b) {g cap i:Nat}
  (ho:w5.ownsRow u 3 1 (.slice (some ⟨g,0,none⟩) (O.length+1) cap) (O.length+1) (O.map keyN++[keyN i])) (g5:w.grownBy w5 ov.ownBlock) (hg:ov.ownBlock=some g∨g=w.heap.size) (hlt:g<w5.heap.size) :
  DiskG u (w5.setCell ⟨d,1,none⟩ (.slice (some ⟨g,0,none⟩) (O.length+1) cap)) (g::F) d s c m X (.slice (some ⟨g,0,none⟩) (O.length+1) cap) K S (O++[i]) U l b ∧
   Fr w (w5.setCell ⟨d,1,none⟩ (.slice (some ⟨g,0,none⟩) (O.length+1) cap)) F∧(g∈F∨w.heap.size≤g):=by
 have n1:some d≠ov.ownBlock:=zau h.ord h.blk (by decide)
 have n2:some s≠ov.ownBlock:=zau h.ord h.sec (by decide)
 have n3:some m≠ov.ownBlock:=h.und.map.own h.ord
 have B5:=h.blk.kept g5 n1
 have g6:=zcn w5 d 1 (.slice (some ⟨g,0,none⟩) (O.length+1) cap)
 have nsd:s≠d:=(zlb h.blk h.sec (by decide)).symm
 have nmd:m≠d:=h.und.map.blk h.blk
 have U5:Und u w5 m K U:=h.und.kept g5 n3 (fun p hp b hb e=>by
  rcases zcg (h.und.row p hp) h.ord (by decide) with h1 | h1
  ·rw[hb] at h1;cases h1
  ·exact h1 (by rw[hb,e]))
 refine ⟨⟨B5.set 1 _,(h.sec.kept g5 n2).kept g6 (fun e=>nsd (by cases e;rfl)),h.fits,?_,?_,by simp[h.inD],by simp[h.inS],by simp[h.inM],?_,?_,?_⟩,?_⟩
 ·rw[List.length_append,List.map_append]
  exact ho.kept g6 (Or.inr fun e=>zau ho B5 (by decide) e.symm)
 ·exact U5.kept g6 (fun e=>nmd (by cases e;rfl)) (fun p hp b hb e=>zau (U5.row p hp) B5 (by decide) (by rw[hb];exact e.symm))
 ·intro b hb
  rw[zjz] at hb
  cases hb
  simp
 ·intro p hp b hb
  exact ⟨List.mem_cons_of_mem _ (h.inK p hp b hb).1,(h.inK p hp b hb).2⟩
 ·intro x hx
  have hsz:w5.heap.size=(w5.setCell ⟨d,1,none⟩ (.slice (some ⟨g,0,none⟩) (O.length+1) cap)).heap.size:=by simp[World.setCell]
  rcases List.mem_cons.1 hx with rfl | hx
  ·exact ⟨(ho.lt _ rfl).1,by rw[← hsz];exact hlt⟩
  ·exact ⟨(h.low x hx).1,by rw[← hsz];exact Nat.lt_of_lt_of_le (h.low x hx).2 g5.size⟩
 ·exact ⟨(Fr.of g5 (fun x e=>Or.inl (h.inO x e))).then g6 (fun x e=>Or.inl (by cases e;exact h.inD)),by
   rcases hg with h1 | h1
   ·exact Or.inl (h.inO g h1)
   ·exact Or.inr (Nat.le_of_eq h1.symm)⟩
theorem DiskG.rowOff {u:Nat} {w:World} {F:List Nat} {d s c m:Nat} {X:List Value} {ov:Value} {K:List (Nat × Value)} {S:List (List UInt8)} {O:List Nat} {U:List (Nat × List UInt8)} {l:Int} {b:Bool} (h:DiskG u w F d s c m X ov K S O U l b) (i:Nat) {x:Nat} (hx:((getI K i).getD (.slice none 0 0)).ownBlock=some x):x∈F∧x≠s∧x≠d∧x≠m:=by
 cases hk:getI K i with
 | none=>rw[hk,Option.getD_none] at hx;cases hx
 | some v =>
   rw[hk,Option.getD_some] at hx
   have hp:=zdu hk
   have h1:=h.inK _ hp x hx
   refine ⟨h1.1,h1.2,fun e => ?_,fun e => ?_⟩
   ·subst e
    exact zau (h.und.row _ hp) h.blk (by decide) hx.symm
   ·subst e
    exact h.und.map.own (h.und.row _ hp) hx.symm
theorem DiskG.rowOwn {u:Nat} {w:World} {F:List Nat} {d s c m:Nat} {X:List Value} {ov:Value} {K:List (Nat × Value)} {S:List (List UInt8)} {O:List Nat} {U:List (Nat × List UInt8)} {l:Int} {b:Bool} (h:DiskG u w F d s c m X ov K S O U l b) (i:Nat):w.ownsRow u 95 256 ((getI K i).getD (.slice none 0 0)) (zax U i).length ((zax U i).flatMap secC):=by
 cases hk:getI K i with
 | none =>
   have hi:i∉K.map (·.1):=fun hm=>by have:=(zck K i).2 hm;rw[hk] at this;cases this
   have:zax U i=[]:=Classical.byContradiction fun hne=>hi ((h.und.keys i).2 (zc8.1 hne))
   rw[this]
   exact World.ownsRow_nil _ _ _ _
 | some v=>exact h.und.row _ (zdu hk)
theorem DiskG.under {u:Nat} {w w8 w9:World} {F:List Nat} {d s c m:Nat} {X:List Value} {ov:Value} {K:List (Nat × Value)} {S:List (List UInt8)} {O:List Nat} {U:List (Nat × List UInt8)} {l:Int} {b:Bool} (h:DiskG u w F d s c m X ov K S O U l b) {g cap i:Nat} {t:List UInt8} {n:Nat}
  (ho:w8.ownsRow u 95 256 (.slice (some ⟨g,0,none⟩) (n+1) cap) (n+1) ((zax U i++[t]).flatMap secC)) (hn:n=(zax U i).length) (g8:w.grownBy w8 ((getI K i).getD (.slice none 0 0)).ownBlock) (hg:((getI K i).getD (.slice none 0 0)).ownBlock=some g∨g=w.heap.size) (hlt:g<w8.heap.size)
  (hM:ImapAt w9 m (putI K i (.slice (some ⟨g,0,none⟩) (n+1) cap))) (g9:w8.grownBy w9 (some m)) :
  DiskG u w9 (g::F) d s c m X ov (putI K i (.slice (some ⟨g,0,none⟩) (n+1) cap)) S O (U++[(i,t)]) l b∧Fr w w9 F∧(g∈F∨w.heap.size≤g):=by
 obtain ⟨v,hv⟩:∃ v,v=(getI K i).getD (.slice none 0 0):=⟨_,rfl⟩
 rw[← hv] at g8 hg
 have hvo:∀ x,v.ownBlock=some x→∃ p∈K,p.1=i∧p.2=v:=by
  intro x hx
  cases hk:getI K i with
  | none=>rw[hk,Option.getD_none] at hv;rw[hv] at hx;cases hx
  | some v'=>rw[hk,Option.getD_some] at hv;exact ⟨(i,v'),zdu hk,rfl,hv.symm⟩
 have hvt:∀ {r:Nat} {t' : TypeId} {cs:List Value},Blk w r t' cs→t'≠95→some r≠v.ownBlock:=by
  intro r t' cs hB ht e
  obtain ⟨p,hp,_,e2⟩:=hvo r e.symm
  exact zau (h.und.row p hp) hB (Ne.symm ht) (by rw[e2];exact e)
 have nd:some d≠v.ownBlock:=hvt h.blk (by decide)
 have ns:some s≠v.ownBlock:=fun e=>by
  obtain ⟨p,hp,_,e2⟩:=hvo s e.symm
  exact (h.inK p hp s (by rw[e2];exact e.symm)).2 rfl
 have nm:some m≠v.ownBlock:=fun e=>by
  obtain ⟨p,hp,_,e2⟩:=hvo m e.symm
  exact h.und.map.own (h.und.row p hp) (by rw[e2];exact e)
 have mdl:∀ {r:Nat} {t' : TypeId} {cs:List Value},Blk w r t' cs→some r≠some m:=fun hB e=>h.und.map.blk hB (by cases e;rfl)
 have hF:Fr w w9 F:=(Fr.of g8 (fun x e=>by
  obtain ⟨p,hp,_,e2⟩:=hvo x e
  exact Or.inl (h.inK p hp x (by rw[e2];exact e)).1)).then g9 (fun x e=>Or.inl (by cases e;exact h.inM))
 have M8:ImapAt w8 m K:=h.und.map.kept g8 nm
 have others:∀ p∈K,p.1≠i→p.2.ownBlock≠some g∧w9.ownsRow u 95 256 p.2 (zax U p.1).length ((zax U p.1).flatMap secC):=by
  intro p hp hpi
  have hpv:p.2.ownBlock=Option.none∨p.2.ownBlock≠v.ownBlock:=by
   cases hb:v.ownBlock with
   | none =>
     cases hb2:p.2.ownBlock with
     | none=>exact Or.inl rfl
     | some y=>exact Or.inr (by simp)
   | some x =>
     obtain ⟨q,hq,e1,e2⟩:=hvo x hb
     have:=h.und.apart p hp q hq (by rw[e1];exact hpi)
     rw[e2,hb] at this
     exact Or.inr this
  refine ⟨fun e => ?_,?_⟩
  ·rcases hg with h1 | h1
   ·rcases hpv with h2 | h2
    ·rw[e] at h2;cases h2
    ·exact h2 (by rw[e,h1])
   ·have:=((h.und.row p hp).lt g e).2
    omega
  ·have h8:=(h.und.row p hp).kept g8 hpv
   exact h8.kept g9 (by
    cases hb:p.2.ownBlock with
    | none=>exact Or.inl rfl
    | some y=>exact Or.inr fun e=>M8.own h8 (by rw[hb,e]))
 have hkeys:∀ j,j∈(putI K i (.slice (some ⟨g,0,none⟩) (n+1) cap)).map (·.1)↔j∈(U++[(i,t)]).map (·.1):=by
  intro j
  rw[List.map_append,List.mem_append]
  constructor
  ·intro hj
   obtain ⟨p,hp,rfl⟩:=List.mem_map.1 hj
   rcases (za8 _ _ _).1 hp with rfl | ⟨h1,_⟩
   ·exact Or.inr (by simp)
   ·exact Or.inl ((h.und.keys _).1 (List.mem_map.2 ⟨p,h1,rfl⟩))
  ·intro hj
   by_cases hji:j=i
   ·exact List.mem_map.2 ⟨(i,.slice (some ⟨g,0,none⟩) (n+1) cap),(za8 _ _ _).2 (Or.inl rfl),hji.symm⟩
   ·rcases hj with hj | hj
    ·obtain ⟨p,hp,rfl⟩:=List.mem_map.1 ((h.und.keys j).2 hj)
     exact List.mem_map.2 ⟨p,(za8 _ _ _).2 (Or.inr ⟨hp,hji⟩),rfl⟩
    ·exact absurd (by simpa using hj) hji
 refine ⟨⟨(h.blk.kept g8 nd).kept g9 (mdl h.blk),(h.sec.kept g8 ns).kept g9 (mdl h.sec),h.fits,?_,⟨hM,hkeys,?_,?_⟩,by simp[h.inD],by simp[h.inS],by simp[h.inM],fun b hb=>List.mem_cons_of_mem _ (h.inO b hb),?_,?_⟩,hF,by
  rcases hg with h1 | h1
  ·obtain ⟨p,hp,_,e2⟩:=hvo g h1
   exact Or.inl (h.inK p hp g (by rw[e2];exact h1)).1
  ·exact Or.inr (Nat.le_of_eq h1.symm)⟩
 ·have h8:=h.ord.kept g8 (by
   cases hb:v.ownBlock with
   | none =>
     cases hb2:ov.ownBlock with
     | none=>exact Or.inl rfl
     | some y=>exact Or.inr (by simp)
   | some x =>
     obtain ⟨q,hq,e1,e2⟩:=hvo x hb
     have:=zcg h.ord (h.und.row q hq) (by decide)
     rw[e2,hb] at this
     exact this)
  exact h8.kept g9 (by
   cases hb:ov.ownBlock with
   | none=>exact Or.inl rfl
   | some y=>exact Or.inr fun e=>M8.own h8 (by rw[hb,e]))
 ·intro p hp
  rcases (za8 _ _ _).1 hp with rfl | ⟨h1,h2⟩
  ·simp only
   rw[zf1,if_pos rfl,List.length_append,← hn]
   exact ho.kept g9 (Or.inr fun e=>M8.own ho (by rw[e]))
  ·rw[zf1,if_neg (fun e=>h2 e.symm)]
   exact (others p h1 h2).2
 ·intro p hp q hq hpq
  rcases (za8 _ _ _).1 hp with rfl | ⟨h1,h2⟩
  ·rcases (za8 _ _ _).1 hq with rfl | ⟨h3,h4⟩
   ·exact absurd rfl hpq
   ·rw[zjz]
    exact fun e=>(others q h3 h4).1 e.symm
  ·rcases (za8 _ _ _).1 hq with rfl | ⟨h3,h4⟩
   ·rw[zjz]
    exact (others p h1 h2).1
   ·exact h.und.apart p h1 q h3 hpq
 ·intro p hp b hb
  rcases (za8 _ _ _).1 hp with rfl | ⟨h1,h2⟩
  ·rw[zjz] at hb
   cases hb
   refine ⟨by simp,fun e => ?_⟩
   subst e
   rcases hg with h3 | h3
   ·exact ns h3.symm
   ·have:=(h.low _ h.inS).2
    omega
  ·exact ⟨List.mem_cons_of_mem _ (h.inK p h1 b hb).1,(h.inK p h1 b hb).2⟩
 ·intro x hx
  rcases List.mem_cons.1 hx with rfl | hx
  ·exact ⟨(ho.lt _ rfl).1,Nat.lt_of_lt_of_le hlt g9.size⟩
  ·exact ⟨(h.low x hx).1,Nat.lt_of_lt_of_le (h.low x hx).2 hF.size⟩
theorem zpy (x:List Value) (hx:x.length=256) (V:World):(Instr.buildSlice 74 1 #[(0,.agg x.toArray)]).run Tryz.prog V = .ok (.slice (some ⟨V.heap.size,0,none⟩) 1 1) (V.alloc (.cells x.toArray 95)):=by
 obtain ⟨i0,hi,hz0,hz1,hz2⟩:=info_parts zgy
 refine run_buildSlice V 74 95 1 _ x.toArray i0 _ Tryz.underlying74 hi hz0 (by rw[hz1];decide) (by rw[hz1];decide) ?_
 rw[hz1]
 have hc:((Array.range (1*256)).map ((Value.agg (secC zsec).toArray).cells[· % (Value.agg (secC zsec).toArray).cells.size]!)).size=256:=by rw[Array.size_map,Array.size_range]
 generalize ((Array.range (1*256)).map ((Value.agg (secC zsec).toArray).cells[· % (Value.agg (secC zsec).toArray).cells.size]!))=C at hc
 have:=Go.Great.fill_whole (s:=256) (by decide) [.agg x.toArray] C (by simp[Value.cells,hx]) (by simpa using hc.symm)
 simpa[Value.cells] using this
theorem zc4 {w:World} {ops:Array Oper} {o:Oper} {a:Act} {K:Act→World→Prop} {Q:Exit→Act→World→Prop} {E:Prop} (hw:Region.wanted o (yielded ops a.tmps)=true) (s x:Operand)
  (ho:o.op = .call { callee := .builtin .append,args := #[s,x],argTypes := #[74,74] })
  (base:Nat) (v:Value) (n:Nat) (xs:List Value) (hs:a.eval s=v) (hown:w.ownsRow base 95 256 v n xs) (p:Nat) (EC:List Value) (hB:Blk w p 95 EC) (hEl:EC.length=256) (hE1:∀ u∈EC,u.oneCell'=true)
  (hx:a.eval x = .slice (some ⟨p,0,none⟩) 1 1) (hn:n≤1000000) (hbase:base≤w.heap.size)
  (h:∀ g cap w',w'.ownsRow base 95 256 (.slice (some ⟨g,0,none⟩) (n+1) cap) (n+1) (xs++EC)→w.grownBy w' v.ownBlock→(v.ownBlock=some g∨g=w.heap.size)→g<w'.heap.size→K (a.put o.dst (.slice (some ⟨g,0,none⟩) (n+1) cap)) w') :
  if Region.wanted o (yielded ops a.tmps)=true then Oper.wp Tryz.prog o a w K Q else E:=by
 rw[if_pos hw]
 obtain ⟨i0,hi,hz0,hz1,hz2⟩:=info_parts zgy
 exact wp_append_lies w s x 74 ho base 95 i0 _ 256 256 Tryz.underlying74 hi hz0 hz1 hz2 (by rw[show Value.cells (.agg (secC zsec).toArray)=(secC zsec).toArray from rfl,List.size_toArray,zbj,zeu]) (by decide) v n xs hs hown ⟨p,0,none⟩ 1 1 EC hx (by rw[hEl]) (fun j u hu=>World.news_of_block hB j u (by simpa using hu)) hE1 (by decide) (by unfold maxLen;omega) (by omega) hbase w.heap.size rfl h
theorem zd1 {w:World} {ops:Array Oper} {rest:List Oper} {o:Oper} {a:Act} {Q:Exit→Act→World→Prop} (hgd:o.guard=none) (s x:Operand)
  (ho:o.op = .call { callee := .builtin .append,args := #[s,x],argTypes := #[51,51] })
  (base:Nat) (v:Value) (n:Nat) (xs:List Value) (hs:a.eval s=v) (hown:w.ownsRow base 3 1 v n xs) (p:Nat) (i:Nat) (hB:Blk w p 3 [keyN i])
  (hx:a.eval x = .slice (some ⟨p,0,none⟩) 1 1) (hn:n≤1000000) (hbase:base≤w.heap.size)
  (h:∀ g cap w',w'.ownsRow base 3 1 (.slice (some ⟨g,0,none⟩) (n+1) cap) (n+1) (xs++[keyN i])→w.grownBy w' v.ownBlock→(v.ownBlock=some g∨g=w.heap.size)→g<w'.heap.size→wpList Tryz.prog ops Q rest (a.put o.dst (.slice (some ⟨g,0,none⟩) (n+1) cap)) w'):wpList Tryz.prog ops Q (o::rest) a w:=by
 obtain ⟨i0,hi,hz0,hz1,hz2⟩:=info_parts zlg
 exact wpList_plain hgd fun _ hK=>wp_append_lies w s x 51 ho base 3 i0 _ 1 8 Tryz.underlying51 hi hz0 hz1 hz2 rfl (by decide) v n xs hs hown ⟨p,0,none⟩ 1 1 [keyN i] hx rfl (fun j u hu=>World.news_of_block hB j u (by simpa using hu)) (fun u hu=>by simp at hu;subst hu;rfl) (by decide) (by unfold maxLen;omega) (by omega) hbase w.heap.size rfl (fun g cap w' q1 q2 q3 q4=>hK _ _ (h g cap w' q1 q2 q3 q4))
theorem zpi {b:List UInt8} : secC (padS b)=(b++List.replicate (256 - b.length) 0).map bv:=rfl
set_option maxRecDepth 100000 in
set_option maxHeartbeats 4000000 in
theorem zkt (u:Nat) (w:World) (F:List Nat) (d:Nat) (D:Dsk) (h:za0 u w F d D) (i:Int) (ao:Option Addr) (bc:Nat) (b:List UInt8) (hb:Bts w ao bc b) (hU:D.U.length≤1000000) :
  Calls Tryz.prog 80 #[.pointer (some ⟨d,0,none⟩),.int .i64 i,.slice ao b.length bc] w fun e w'=>e = .returned (.int .i64 (wrD D i b).2)∧Left u w w' F d (wrD D i b).1:=by
 obtain ⟨s,c,m,X,ov,K,h⟩:=h
 have c1:=zct u w F d s c m X ov K D h
 have hstay:Left u w w F d D:=⟨F,h.at,Fr.refl _ _,fun x hx=>Or.inl hx⟩
 by_cases hd:D.down=true
 ·have e1:wrD D i b=(D,17):=by unfold wrD;rw[if_pos hd]
  rw[e1]
  rw[if_pos hd] at c1
  have HS:=hide hstay
  clear hstay hd e1 h hb hU
  go_enter Tryz.func80,Tryz.ntmps80
  go_wp2_with (go_at_call 50;refine c1.mono ?_;rintro e w2 ⟨rfl,e2⟩;subst w2;clear c1)
  go_ret
  exact ⟨rfl,uh HS⟩
 rw[if_neg hd] at c1
 have c2:=zgx w d s _ c h.c0 i
 by_cases hi:hasD D i=true
 case neg =>
  have e1:wrD D i b=(D,2):=by unfold wrD;rw[if_neg hd,if_neg (fun e=>hi e.1)]
  rw[e1]
  have hi2:decide (0≤i∧i<(D.safe.length:Int))=false:=by simpa[hasD] using hi
  rw[hi2] at c2
  have HS:=hide hstay
  clear hstay hd e1 h hb hU hi hi2
  go_enter Tryz.func80,Tryz.ntmps80
  go_wp2_with (first
   | (go_at_call 50;refine c1.mono ?_;rintro e w2 ⟨rfl,e2⟩;subst w2;clear c1)
   | (go_at_call 70;refine c2.mono ?_;rintro e w2 ⟨rfl,e2⟩;subst w2;clear c2))
  go_ret
  exact ⟨rfl,uh HS⟩
 have hi2:decide (0≤i∧i<(D.safe.length:Int))=true:=by simpa[hasD] using hi
 rw[hi2] at c2
 by_cases hl:b.length≤256
 case neg =>
  have e1:wrD D i b=(D,2):=by unfold wrD;rw[if_neg hd,if_neg (fun e=>hl e.2)]
  rw[e1]
  have HS:=hide hstay
  obtain ⟨n,hn⟩:∃ n,n=b.length:=⟨_,rfl⟩
  rw[← hn] at hl ⊢
  have hl2:(256:Int)<(n:Int):=by omega
  have hl3:256<n:=by omega
  clear hstay hd e1 h hb hU hi hi2 hn hl
  go_enter Tryz.func80,Tryz.ntmps80
  go_wp2_with (first
   | (go_at_call 50;refine c1.mono ?_;rintro e w2 ⟨rfl,e2⟩;subst w2;clear c1)
   | (go_at_call 70;refine c2.mono ?_;rintro e w2 ⟨rfl,e2⟩;subst w2;clear c2))
  go_ret
  exact ⟨rfl,uh HS⟩
 obtain ⟨hj,hij⟩:=zgr hi
 obtain ⟨j,hjj⟩:∃ j,j=i.toNat:=⟨_,rfl⟩
 have e1:wrD D i b=cntD { D with U:=D.U++[(j,padS b)] }:=by unfold wrD;rw[if_neg hd,if_pos ⟨hi,hl⟩,hjj]
 rw[e1]
 rw[← hjj] at hj hij
 have hok:=h.ok.add hj hl
 subst hij
 have HOK:=hide hok
 obtain ⟨Z,hZ,hzv⟩:∃ Z:Array Value,Z=(secC zsec).toArray∧∀ w,(zeroValue 95).run Tryz.prog w = .ok (.agg Z) w:=⟨_,rfl,zjh⟩
 obtain ⟨W1,hW1⟩:∃ W,W=w.alloc (.cells Z 95):=⟨_,rfl⟩
 have hB1:Blk W1 w.heap.size 95 ((List.replicate 256 (0:UInt8)).map bv):=by rw[hW1,hZ];exact Blk.new w 95 _
 have g1:w.grownBy W1 none:=by rw[hW1];exact zad (zab _ _) _
 have hb1:=hb.kept g1 (fun _ e=>by cases e)
 have hss:=zfr w.heap.size W1
 have hcp:=zgt W1 w.heap.size 0 256 256 ao bc b hb1 (fun j hj=>by
  have:=hB1.there 0 256 (by simp) j (by omega)
  simpa using this)
 rw[Nat.min_eq_left hl,List.take_length] at hcp
 have hB2:=hB1.filled b hl
 rw[← zpi] at hB2
 obtain ⟨W2,hW2⟩:∃ W,W=W1.setCells w.heap.size 0 (b.map bv):=⟨_,rfl⟩
 rw[← hW2] at hcp hB2
 have g2:w.grownBy W2 none:=by rw[hW2];exact zat (Or.inl (Nat.le_refl _)) _ _ g1
 obtain ⟨EB,hEB⟩:∃ EB,EB=secC (padS b):=⟨_,rfl⟩
 have hEl:EB.length=256:=by rw[hEB,zbj,zi6 hl]
 have hEo:∀ u∈EB,u.oneCell'=true:=by rw[hEB];exact zey _
 have hiE:(Tryz.prog.info? 95).map (·.size)=some EB.length:=by rw[hEl];exact zcv
 rw[← hEB] at hB2
 obtain ⟨O,hO⟩:∃ O,O=D.U.map (·.1):=⟨_,rfl⟩
 have hOl:O.length≤1000000:=by rw[hO];simpa using hU
 have hG:=h.g
 rw[← hO] at hG
 obtain ⟨W3,hW3,hB3,g3⟩:=zak W2 3 [keyN j]
 have G3:=tn g2 g3
 have hG3:=hG.nn G3
 have hE3:=hB2.kept g3 (by simp)
 obtain ⟨k,hk⟩:∃ k,k=O.length:=⟨_,rfl⟩
 have ho3:=hG3.ord
 rw[← hk] at ho3 hOl
 have hbase3:u≤W3.heap.size:=by have:=hG3.low _ hG3.inD;omega
 obtain ⟨q,hq⟩:∃ q,q=w.heap.size:=⟨_,rfl⟩
 have hqF:∀ x∈F,x<q:=fun x hx=>by rw[hq];exact (h.low x hx).2
 have hc0:=h.c0
 have hc1:W2.cell? ⟨d,1,none⟩=some ov:=by rw[(hG.nn g2).blk.cell];rfl
 have HIND:=hide h.inD
 obtain ⟨n,hn⟩:∃ n,n=b.length:=⟨_,rfl⟩
 have hl2:¬ (256:Int)<(n:Int):=by omega
 have hl3:¬ 256<n:=by omega
 rw[← hn] at hcp ⊢
 rw[← hq] at hss hcp hB2 hE3
 have hord:∀ g cap w5,w5.ownsRow u 3 1 (.slice (some ⟨g,0,none⟩) (k+1) cap) (k+1) (O.map keyN++[keyN j])→W3.grownBy w5 ov.ownBlock→(ov.ownBlock=some g∨g=W3.heap.size)→g<w5.heap.size →
   (∃ y,w5.cell? ⟨d,1,none⟩=some y)∧w5.frozen? ⟨d,1,none⟩=false∧DiskG u (w5.setCell ⟨d,1,none⟩ (.slice (some ⟨g,0,none⟩) (k+1) cap)) (g::F) d s c m X (.slice (some ⟨g,0,none⟩) (k+1) cap) K D.safe (O++[j]) D.U D.left D.down ∧
   Fr w (w5.setCell ⟨d,1,none⟩ (.slice (some ⟨g,0,none⟩) (k+1) cap)) F∧(g∈F∨w.heap.size≤g)∧Blk (w5.setCell ⟨d,1,none⟩ (.slice (some ⟨g,0,none⟩) (k+1) cap)) q 95 EB∧g≠q∧w.heap.size≤w5.heap.size:=by
  intro g cap w5 ho5 g5 hg5 hlt5
  have n1:some d≠ov.ownBlock:=zau hG3.ord hG3.blk (by decide)
  have B5:=hG3.blk.kept g5 n1
  rw[hk] at ho5 ⊢
  obtain ⟨q1,q2,q3⟩:=hG3.ordered ho5 g5 hg5 hlt5
  refine ⟨⟨_,B5.cell 1⟩,B5.fz 1,q1,(Fr.none G3 F).trans q2 (fun x hx=>Or.inl hx),q3.imp id (fun e=>Nat.le_trans G3.size e),?_,?_,Nat.le_trans G3.size g5.size⟩
  ·refine (hE3.kept g5 (fun e => ?_)).other _ _ (fun e => ?_)
   ·have:=hqF q (hG.inO q e.symm)
    omega
   ·have e' : d=q:=e
    have:=hqF d hG.inD
    omega
  ·rintro rfl
   rcases hg5 with e | e
   ·have:=hqF g (hG.inO g e)
    omega
   ·have:=hE3.lt
    omega
 obtain ⟨HORD,HO3,HB3,HW1⟩:=zh4 hord ho3 hB3 hW1
 have HW3:=hide (show W3=W2.alloc (.cells #[.int .i64 (j:Int)] 3) from hW3)
 obtain ⟨HIE,HEL,HEO,HQF,HK,HO⟩:=zh6 hiE hEl hEo hqF hk hO
 obtain ⟨HQ,HUU,HEB⟩:=zh3 hq hU hEB
 clear hord ho3 hB3 hW1 hW3 hiE hEl hEo hqF hk hO hq hEB hn hl hi hi2 hd e1 hjj hok hj hb hb1 hB1 hB2 hZ hW2 g1 g2 g3 G3 hG hG3 hE3 h hstay hU
 go_enter Tryz.func80,Tryz.ntmps80
 go_upto_region 8 with (first
  | (go_at_call 50;refine c1.mono ?_;rintro e w2 ⟨rfl,e2⟩;subst w2;clear c1)
  | (go_at_call 70;refine c2.mono ?_;rintro e w2 ⟨rfl,e2⟩;subst w2;clear c2)
  | (rw[← uh HW1,← uh HQ]))
 go_upto_region 9 with (rw[← uh HW3];refine zd1 rfl _ _ rfl u ov k (O.map keyN) rfl (uh HO3) W2.heap.size j (uh HB3) rfl hOl hbase3 ?_;intro g cap w5 ho5 g5 hg5 hlt5;have HH:=hide (uh HORD g cap w5 ho5 g5 hg5 hlt5);obtain ⟨⟨y5,hy5⟩,hf5,-⟩:=uh HH;clear ho5 g5 hg5 hlt5;try simp only[Act.put,pq1,pq2,pq3])
 obtain ⟨-,-,hG6,hF6,hN6,hE6,hgq,hsz5⟩:=uh HH
 obtain ⟨W6,hW6⟩:∃ W,W=w5.setCell ⟨d,1,none⟩ (.slice (some ⟨g,0,none⟩) (k+1) cap):=⟨_,rfl⟩
 rw[← hW6] at hG6 hF6 hE6 ⊢
 obtain ⟨W6d,hW6d⟩:∃ W,W=W6.drew:=⟨_,rfl⟩
 have gd:W6.grownBy W6d none:=by rw[hW6d];exact zac (zab _ _)
 have hG6d:=hG6.nn gd
 have hE6d:=hE6.kept gd (by simp)
 obtain ⟨W7,hW7,hB7,g7⟩:=zak W6d 95 EB
 have hG7:=hG6d.nn g7
 have hE7:=hE6d.kept g7 (by simp)
 have hbs:=zpy EB (uh HEL) W6d
 rw[← hW7] at hbs
 obtain ⟨v0,hv0⟩:∃ v,v=(getI K j).getD (.slice none 0 0):=⟨_,rfl⟩
 have hlk6:=hG6d.und.map.look 75 74 Tryz.underlying75 (.slice none 0 0) (zdw W6d) j false
 have hlk7:=hG7.und.map.look 75 74 Tryz.underlying75 (.slice none 0 0) (zdw W7) j false
 unfold keyN at hlk6 hlk7
 simp only[Bool.false_eq_true,if_false] at hlk6 hlk7
 rw[← hv0] at hlk6 hlk7
 have hV7:=hG7.rowOwn j
 rw[← hv0] at hV7
 obtain ⟨n0,hn0⟩:∃ n,n=(zax D.U j).length:=⟨_,rfl⟩
 obtain ⟨xs0,hxs0⟩:∃ xs,xs=(zax D.U j).flatMap secC:=⟨_,rfl⟩
 rw[← hn0,← hxs0] at hV7
 have hN0:n0≤1000000:=by rw[hn0];exact Nat.le_trans (zhg _ _) (uh HUU)
 have hU7:u≤W7.heap.size:=by have:=hG7.low _ hG7.inD;omega
 have hS6:W6d.cell? ⟨d,2,none⟩=some (.map (some m))∧W6d.rangeAt q 0 EB:=⟨by rw[hG6d.blk.cell];rfl,zan hE6d⟩
 have hS7:W7.cell? ⟨d,2,none⟩=some (.map (some m))∧W7.rangeAt q 0 EB:=⟨by rw[hG7.blk.cell];rfl,zan hE7⟩
 have hqg:∀ x∈g::F,x≠q:=fun x hx e=>by
  rcases List.mem_cons.1 hx with rfl | hx
  ·exact hgq e
  ·have:=uh HQF x hx
   omega
 have hap:∀ g8 cap8 w8,w8.ownsRow u 95 256 (.slice (some ⟨g8,0,none⟩) (n0+1) cap8) (n0+1) (xs0++EB)→W7.grownBy w8 v0.ownBlock→(v0.ownBlock=some g8∨g8=W7.heap.size)→g8<w8.heap.size →
   ∃ w9,(Instr.mapUpdate 75 (.map (some m)) (.int .i64 (j:Int)) (.slice (some ⟨g8,0,none⟩) (n0+1) cap8)).run Tryz.prog w8 = .ok () w9 ∧
     (w8.cell? ⟨d,2,none⟩=some (.map (some m))∧w8.rangeAt q 0 EB)∧(w9.cell? ⟨d,2,none⟩=some (.map (some m))∧w9.rangeAt q 0 EB) ∧
     ∃ F9 X9 ov9 K9 c9,DiskM u w9 F9 d s c9 m X9 ov9 K9 { D with U:=D.U++[(j,padS b)] }∧Fr w w9 F∧∀ x∈F9,x∈F∨w.heap.size≤x:=by
  intro g8 cap8 w8 ho8 g8g hg8 hlt8
  have nr:∀ x,v0.ownBlock=some x→x∈g::F∧x≠s∧x≠d∧x≠m:=fun x hx=>hG7.rowOff j (by rw[← hv0];exact hx)
  have M8:=hG7.und.map.kept g8g (fun e=>(nr m e.symm).2.2.2 rfl)
  obtain ⟨w9,hrun9,hM9,g9,-⟩:=M8.store 75 74 Tryz.underlying75 j (.slice (some ⟨g8,0,none⟩) (n0+1) cap8)
  have hE8:=hE7.kept g8g (fun e=>hqg q (nr q e.symm).1 rfl)
  have B8:=hG7.blk.kept g8g (fun e=>(nr d e.symm).2.2.1 rfl)
  have hE9:=hE8.kept g9 (fun e=>M8.blk hE8 (by cases e;rfl))
  have B9:=B8.kept g9 (fun e=>M8.blk B8 (by cases e;rfl))
  refine ⟨w9,hrun9,⟨by rw[B8.cell];rfl,zan hE8⟩,⟨by rw[B9.cell];rfl,zan hE9⟩,?_⟩
  rw[hv0] at g8g hg8
  obtain ⟨hG9,hF9,hN9⟩:=hG7.under (t:=padS b) (by rw[List.flatMap_append,← hxs0];have:=uh HEB;simpa[this] using ho8) hn0 g8g hg8 hlt8 hM9 g9
  have hOO:O++[j]=(D.U++[(j,padS b)]).map (·.1):=by rw[List.map_append,← uh HO];rfl
  rw[hOO] at hG9
  refine ⟨g8::g::F,X,_,_,c,DiskG.m (D:={ D with U:=D.U++[(j,padS b)] }) hG9 (uh HOK),?_,?_⟩
  ·refine (hF6.trans (Fr.none (tn gd g7) F) (fun x hx=>Or.inl hx)).trans hF9 (fun x hx => ?_)
   rcases List.mem_cons.1 hx with rfl | hx
   ·exact hN6
   ·exact Or.inl hx
  ·intro x hx
   have h76:w.heap.size≤W7.heap.size:=Nat.le_trans hF6.size (tn gd g7).size
   rcases List.mem_cons.1 hx with rfl | hx
   ·rcases hN9 with h1 | h1
    ·rcases List.mem_cons.1 h1 with rfl | h1
     ·exact hN6
     ·exact Or.inl h1
    ·exact Or.inr (Nat.le_trans h76 h1)
   ·rcases List.mem_cons.1 hx with rfl | hx
    ·exact hN6
    ·exact Or.inl hx
 obtain ⟨HAP,HS6,HS7,HW6d,HV7,HB7⟩:=zh6 hap hS6 hS7 hW6d hV7 hB7
 obtain ⟨HN0,HU7,HBS,HNN⟩:=zh4 hN0 hU7 hbs hn0
 clear hap hS6 hS7 hW6d hV7 hB7 hN0 hU7 hbs hn0 hxs0 hv0 hqg hE7 hG7 g7 hW7 hE6d hG6d gd hW6 hG6 hF6 hN6 hE6 hgq hsz5 hy5 hf5 HH HORD HO3 HB3 HQF
 refine wp_region_noPanic ?_
 refine wp_region_held_drew (S:=fun V=>V.cell? ⟨d,2,none⟩=some (.map (some m))∧V.rangeAt q 0 EB) (by kernel_rfl) (by rw[← uh HW6d];exact uh HS6) (fun _ => ?_)
 rw[← uh HW6d]
 refine tq 0 36 (.move (.tmp 0)) ((.pointer (some ⟨d,0,none⟩))) (uh HS6) ?_
 refine tq 1 37 (.nilCheck (.tmp 36)) ((.pointer (some ⟨d,0,none⟩))) (uh HS6) ?_
 refine tq 2 38 (.fieldAddr 77 (.tmp 37) 2) ((.pointer (some ⟨d,2,none⟩))) (uh HS6) ?_
 refine tz 3 39 (.load 75 (.tmp 38)) ((.map (some m))) (uh HS6) ?_ (y:=(Or.inl ⟨by rfl,fun V hV=>by (have hv1:=hV.1;go_simp)⟩))
 (try simp only[pq])
 refine tq 4 40 (.move (.tmp 1)) ((.int .i64 (j:Int))) (uh HS6) ?_
 refine tq 5 41 (.move (.tmp 0)) ((.pointer (some ⟨d,0,none⟩))) (uh HS6) ?_
 refine tq 6 42 (.nilCheck (.tmp 41)) ((.pointer (some ⟨d,0,none⟩))) (uh HS6) ?_
 refine tq 7 43 (.fieldAddr 77 (.tmp 42) 2) ((.pointer (some ⟨d,2,none⟩))) (uh HS6) ?_
 (try simp only[pq])
 refine tz 8 44 (.load 75 (.tmp 43)) ((.map (some m))) (uh HS6) ?_ (y:=(Or.inl ⟨by rfl,fun V hV=>by (have hv1:=hV.1;go_simp)⟩))
 refine tq 9 45 (.move (.tmp 1)) ((.int .i64 (j:Int))) (uh HS6) ?_
 refine tz 11 47 (.load 95 (.tmp 8)) ((.agg EB.toArray)) (uh HS6) ?_ (y:=(yieldsIf_load_mid (by rfl) _ _ rfl _ _ rfl EB _ (fun V hV=>hV.2) Tryz.underlying95 rfl (uh HIE)))
 (try simp only[pq])
 refine wpAnyH_ready (rs:=[10,12]) (by kernel_rfl) (by simp) ?_
 refine AllReadyH.cons (o:=⟨some 46,.lookup 75 (.tmp 44) (.tmp 45) false,_,_,_,_⟩) rfl (fun K9 hK9 => ?_) (AllReadyH.cons (o:=⟨some 48,.buildSlice 74 1 #[(0,(.tmp 47))],_,_,_,_⟩) rfl (fun K9 hK9 => ?_) AllReadyH.nil)
 ·go_simp
  refine hK9.out _ _ (uh HS6) (fun _ => ?_)
  clear hK9 K9
  (try simp only[pq])
  refine rdq 12 (some 48) (.buildSlice 74 1 #[(0,(.tmp 47))]) (fun K9 hK9 => ?_)
  refine zcc (by rfl) 74 (.tmp 47) rfl (.agg EB.toArray) _ rfl (uh HBS) ?_
  refine hK9.out _ _ (uh HS7) (fun _ => ?_)
  clear hK9 K9
  (try simp only[pq])
  refine rdq 13 (some 49) (.call { callee := .builtin .append,args := #[(.tmp 46),(.tmp 48)],argTypes := #[74,74] }) (fun K9 hK9 => ?_)
  refine zc4 (by rfl) _ _ rfl u v0 n0 xs0 rfl (uh HV7) W6d.heap.size EB (uh HB7) (uh HEL) (uh HEO) rfl (uh HN0) (uh HU7) ?_
  intro g8 cap8 w8 ho8 g8g hg8 hlt8
  obtain ⟨w9,hrun9,hS8,hS9,hfin9⟩:=uh HAP g8 cap8 w8 ho8 g8g hg8 hlt8
  obtain ⟨HFIN,HS8,HS9⟩:=zh3 hfin9 hS8 hS9
  clear ho8 g8g hg8 hlt8 hS8 hS9 hfin9
  refine hK9.out _ _ (uh HS8) (fun _ => ?_)
  clear hK9 K9
  (try simp only[pq])
  refine rdq 14 none (.mapUpdate 75 (.tmp 39) (.tmp 40) (.tmp 49)) (fun K9 hK9 => ?_)
  go_simp
  refine hK9.out _ _ (uh HS9) (fun _ => ?_)
  clear hK9 K9
  (try simp only[pq])
  refine wpAnyH_done (by kernel_rfl) ?_ _
  refine NoPanic.normal ?_
  obtain ⟨F9,X9,ov9,K9,c9,hM9,hF9,hN9⟩:=uh HFIN
  have cn:=zea u w9 F9 d s c9 m X9 ov9 K9 _ hM9
  obtain ⟨HF9,HN9⟩:=zh2 hF9 hN9
  clear hM9 hrun9 hF9 hN9
  go_wp2_with (go_at_call 100;refine cn.mono ?_;rintro e w10 ⟨rfl,hM10,g10⟩;have HM10:=hide hM10;have HG10:=hide g10;clear cn hM10 g10)
  go_ret
  exact ⟨rfl,F9,(uh HM10).at,(uh HF9).then (uh HG10) (fun x e=>by cases e;exact Or.inl (uh HIND)),uh HN9⟩
 ·refine zcc (by rfl) 74 (.tmp 47) rfl (.agg EB.toArray) _ rfl (uh HBS) ?_
  refine hK9.out _ _ (uh HS7) (fun _ => ?_)
  clear hK9 K9
  (try simp only[pq])
  refine rdq 10 (some 46) (.lookup 75 (.tmp 44) (.tmp 45) false) (fun K9 hK9 => ?_)
  go_simp
  refine hK9.out _ _ (uh HS7) (fun _ => ?_)
  clear hK9 K9
  (try simp only[pq])
  refine rdq 13 (some 49) (.call { callee := .builtin .append,args := #[(.tmp 46),(.tmp 48)],argTypes := #[74,74] }) (fun K9 hK9 => ?_)
  refine zc4 (by rfl) _ _ rfl u v0 n0 xs0 rfl (uh HV7) W6d.heap.size EB (uh HB7) (uh HEL) (uh HEO) rfl (uh HN0) (uh HU7) ?_
  intro g8 cap8 w8 ho8 g8g hg8 hlt8
  obtain ⟨w9,hrun9,hS8,hS9,hfin9⟩:=uh HAP g8 cap8 w8 ho8 g8g hg8 hlt8
  obtain ⟨HFIN,HS8,HS9⟩:=zh3 hfin9 hS8 hS9
  clear ho8 g8g hg8 hlt8 hS8 hS9 hfin9
  refine hK9.out _ _ (uh HS8) (fun _ => ?_)
  clear hK9 K9
  (try simp only[pq])
  refine rdq 14 none (.mapUpdate 75 (.tmp 39) (.tmp 40) (.tmp 49)) (fun K9 hK9 => ?_)
  go_simp
  refine hK9.out _ _ (uh HS9) (fun _ => ?_)
  clear hK9 K9
  (try simp only[pq])
  refine wpAnyH_done (by kernel_rfl) ?_ _
  refine NoPanic.normal ?_
  obtain ⟨F9,X9,ov9,K9,c9,hM9,hF9,hN9⟩:=uh HFIN
  have cn:=zea u w9 F9 d s c9 m X9 ov9 K9 _ hM9
  obtain ⟨HF9,HN9⟩:=zh2 hF9 hN9
  clear hM9 hrun9 hF9 hN9
  go_wp2_with (go_at_call 100;refine cn.mono ?_;rintro e w10 ⟨rfl,hM10,g10⟩;have HM10:=hide hM10;have HG10:=hide g10;clear cn hM10 g10)
  go_ret
  exact ⟨rfl,F9,(uh HM10).at,(uh HF9).then (uh HG10) (fun x e=>by cases e;exact Or.inl (uh HIND)),uh HN9⟩
end Go.Proofs.YtoilcpdhhlcidaaGreatDoor
