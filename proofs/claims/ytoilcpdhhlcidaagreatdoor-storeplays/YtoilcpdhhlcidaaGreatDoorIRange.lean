/- Lemmas. -/
import Derived.Test.YtoilcpdhhlcidaaGreatDoorDkG
import Derived.Great.BuildSlice
import Derived.Test.YtoilcpdhhlcidaaGreatDoorMTk
import Derived.Maps.RangeRun
namespace Go.Proofs.YtoilcpdhhlcidaaGreatDoor
open Go.RowKit
theorem zsa (x:List Value) (hx:x.length=256) (V:World):(Instr.buildSlice 74 1 #[(0,.agg x.toArray)]).run Tryz.prog V = .ok (.slice (some ⟨V.heap.size,0,none⟩) 1 1) (V.alloc (.cells x.toArray 95)):=by
 obtain ⟨i0,hi,hz0,hz1,hz2⟩:=info_parts zfo
 refine run_buildSlice V 74 95 1 _ x.toArray i0 _ Tryz.underlying74 hi hz0 (by rw[hz1];decide) (by rw[hz1];decide) ?_
 rw[hz1]
 have hc:((Array.range (1*256)).map ((Value.agg (secC zsec).toArray).cells[· % (Value.agg (secC zsec).toArray).cells.size]!)).size=256:=by rw[Array.size_map,Array.size_range]
 generalize ((Array.range (1*256)).map ((Value.agg (secC zsec).toArray).cells[· % (Value.agg (secC zsec).toArray).cells.size]!))=C at hc
 have:=Go.Great.fill_whole (s:=256) (by decide) [.agg x.toArray] C (by simp[Value.cells,hx]) (by simpa using hc.symm)
 simpa[Value.cells] using this
theorem zdo {w:World} {ops:Array Oper} {o:Oper} {a:Act} {K:Act→World→Prop} {Q:Exit→Act→World→Prop} {E:Prop} (hw:Region.wanted o (yielded ops a.tmps)=true) (s x:Operand)
  (ho:o.op = .call { callee := .builtin .append,args := #[s,x],argTypes := #[74,74] })
  (base:Nat) (v:Value) (n:Nat) (xs:List Value) (hs:a.eval s=v) (hown:w.ownsRow base 95 256 v n xs) (p:Nat) (EC:List Value) (hB:Blk w p 95 EC) (hEl:EC.length=256) (hE1:∀ u∈EC,u.oneCell'=true)
  (hx:a.eval x = .slice (some ⟨p,0,none⟩) 1 1) (hn:n≤1000000) (hbase:base≤w.heap.size)
  (h:∀ g cap w',w'.ownsRow base 95 256 (.slice (some ⟨g,0,none⟩) (n+1) cap) (n+1) (xs++EC)→w.grownBy w' v.ownBlock→(v.ownBlock=some g∨g=w.heap.size)→g<w'.heap.size→K (a.put o.dst (.slice (some ⟨g,0,none⟩) (n+1) cap)) w') :
  if Region.wanted o (yielded ops a.tmps)=true then Oper.wp Tryz.prog o a w K Q else E:=by
 rw[if_pos hw]
 obtain ⟨i0,hi,hz0,hz1,hz2⟩:=info_parts zfo
 exact wp_append_lies w s x 74 ho base 95 i0 _ 256 256 Tryz.underlying74 hi hz0 hz1 hz2 (by rw[show Value.cells (.agg (secC zsec).toArray)=(secC zsec).toArray from rfl,List.size_toArray,zbe,zea]) (by decide) v n xs hs hown ⟨p,0,none⟩ 1 1 EC hx (by rw[hEl]) (fun j u hu=>World.news_of_block hB j u (by simpa using hu)) hE1 (by decide) (by unfold maxLen;omega) (by omega) hbase w.heap.size rfl h
theorem zeo {w:World} {ops:Array Oper} {rest:List Oper} {o:Oper} {a:Act} {Q:Exit→Act→World→Prop} (hgd:o.guard=none) (s x:Operand)
  (ho:o.op = .call { callee := .builtin .append,args := #[s,x],argTypes := #[51,51] })
  (base:Nat) (v:Value) (n:Nat) (xs:List Value) (hs:a.eval s=v) (hown:w.ownsRow base 3 1 v n xs) (p:Nat) (i:Nat) (hB:Blk w p 3 [keyN i])
  (hx:a.eval x = .slice (some ⟨p,0,none⟩) 1 1) (hn:n≤1000000) (hbase:base≤w.heap.size)
  (h:∀ g cap w',w'.ownsRow base 3 1 (.slice (some ⟨g,0,none⟩) (n+1) cap) (n+1) (xs++[keyN i])→w.grownBy w' v.ownBlock→(v.ownBlock=some g∨g=w.heap.size)→g<w'.heap.size→wpList Tryz.prog ops Q rest (a.put o.dst (.slice (some ⟨g,0,none⟩) (n+1) cap)) w'):wpList Tryz.prog ops Q (o::rest) a w:=by
 obtain ⟨i0,hi,hz0,hz1,hz2⟩:=info_parts zix
 exact wpList_plain hgd fun _ hK=>wp_append_lies w s x 51 ho base 3 i0 _ 1 8 Tryz.underlying51 hi hz0 hz1 hz2 rfl (by decide) v n xs hs hown ⟨p,0,none⟩ 1 1 [keyN i] hx rfl (fun j u hu=>World.news_of_block hB j u (by simpa using hu)) (fun u hu=>by simp at hu;subst hu;rfl) (by decide) (by unfold maxLen;omega) (by omega) hbase w.heap.size rfl (fun g cap w' q1 q2 q3 q4=>hK _ _ (h g cap w' q1 q2 q3 q4))
theorem zro {b:List UInt8} : secC (padS b)=(b++List.replicate (256 - b.length) 0).map bv:=rfl
set_option maxRecDepth 100000 in
set_option maxHeartbeats 4000000 in
theorem zma (u:Nat) (w:World) (F:List Nat) (d:Nat) (D:Dsk) (h:za4 u w F d D) (i:Int) (ao:Option Addr) (bc:Nat) (b:List UInt8) (hb:Bts w ao bc b) (hU:D.U.length≤1000000) :
  Calls Tryz.prog 80 #[.pointer (some ⟨d,0,none⟩),.int .i64 i,.slice ao b.length bc] w fun e w'=>e = .returned (.int .i64 (wrD D i b).2)∧Left u w w' F d (wrD D i b).1:=by
 obtain ⟨s,c,m,X,ov,K,h⟩:=h
 have c1:=zde u w F d s c m X ov K D h
 have hstay:Left u w w F d D:=⟨F,h.at,Fr.refl _ _,fun x hx=>Or.inl hx⟩
 by_cases hd:D.down=true
 ·have e1:wrD D i b=(D,17):=by unfold wrD;rw[if_pos hd]
  rw[e1]
  rw[if_pos hd] at c1
  have HS:=hide hstay
  clear hstay hd e1 h hb hU
  go_enter Tryz.func80,Tryz.ntmps80
  go_wp2_with (go_at_call 50;refine c1.mono ?_;rintro e w2 ⟨rfl,e2⟩;subst w2;clear c1)
  go_ret
  exact ⟨rfl,uh HS⟩
 rw[if_neg hd] at c1
 have c2:=zhq w d s _ c h.c0 i
 by_cases hi:hasD D i=true
 case neg =>
  have e1:wrD D i b=(D,2):=by unfold wrD;rw[if_neg hd,if_neg (fun e=>hi e.1)]
  rw[e1]
  have hi2:decide (0≤i∧i<(D.safe.length:Int))=false:=by simpa[hasD] using hi
  rw[hi2] at c2
  have HS:=hide hstay
  clear hstay hd e1 h hb hU hi hi2
  go_enter Tryz.func80,Tryz.ntmps80
  go_wp2_with (first
   | (go_at_call 50;refine c1.mono ?_;rintro e w2 ⟨rfl,e2⟩;subst w2;clear c1)
   | (go_at_call 70;refine c2.mono ?_;rintro e w2 ⟨rfl,e2⟩;subst w2;clear c2))
  go_ret
  exact ⟨rfl,uh HS⟩
 have hi2:decide (0≤i∧i<(D.safe.length:Int))=true:=by simpa[hasD] using hi
 rw[hi2] at c2
 by_cases hl:b.length≤256
 case neg =>
  have e1:wrD D i b=(D,2):=by unfold wrD;rw[if_neg hd,if_neg (fun e=>hl e.2)]
  rw[e1]
  have HS:=hide hstay
  obtain ⟨n,hn⟩:∃ n,n=b.length:=⟨_,rfl⟩
  rw[← hn] at hl ⊢
  have hl2:(256:Int)<(n:Int):=by omega
  have hl3:256<n:=by omega
  clear hstay hd e1 h hb hU hi hi2 hn hl
  go_enter Tryz.func80,Tryz.ntmps80
  go_wp2_with (first
   | (go_at_call 50;refine c1.mono ?_;rintro e w2 ⟨rfl,e2⟩;subst w2;clear c1)
   | (go_at_call 70;refine c2.mono ?_;rintro e w2 ⟨rfl,e2⟩;subst w2;clear c2))
  go_ret
  exact ⟨rfl,uh HS⟩
 obtain ⟨hj,hij⟩:=zhl hi
 obtain ⟨j,hjj⟩:∃ j,j=i.toNat:=⟨_,rfl⟩
 have e1:wrD D i b=cntD { D with U:=D.U++[(j,padS b)] }:=by unfold wrD;rw[if_neg hd,if_pos ⟨hi,hl⟩,hjj]
 rw[e1]
 rw[← hjj] at hj hij
 have hok:=h.ok.add hj hl
 subst hij
 have HOK:=hide hok
 obtain ⟨Z,hZ,hzv⟩:∃ Z:Array Value,Z=(secC zsec).toArray∧∀ w,(zeroValue 95).run Tryz.prog w = .ok (.agg Z) w:=⟨_,rfl,zkq⟩
 obtain ⟨W1,hW1⟩:∃ W,W=w.alloc (.cells Z 95):=⟨_,rfl⟩
 have hB1:Blk W1 w.heap.size 95 ((List.replicate 256 (0:UInt8)).map bv):=by rw[hW1,hZ];exact Blk.new w 95 _
 have g1:w.grownBy W1 none:=by rw[hW1];exact zaf (zac _ _) _
 have hb1:=hb.kept g1 (fun _ e=>by cases e)
 have hss:=zgj w.heap.size W1
 have hcp:=zhr W1 w.heap.size 0 256 256 ao bc b hb1 (fun j hj=>by
  have:=hB1.there 0 256 (by simp) j (by omega)
  simpa using this)
 rw[Nat.min_eq_left hl,List.take_length] at hcp
 have hB2:=hB1.filled b hl
 rw[← zro] at hB2
 obtain ⟨W2,hW2⟩:∃ W,W=W1.setCells w.heap.size 0 (b.map bv):=⟨_,rfl⟩
 rw[← hW2] at hcp hB2
 have g2:w.grownBy W2 none:=by rw[hW2];exact za1 (Or.inl (Nat.le_refl _)) _ _ g1
 obtain ⟨EB,hEB⟩:∃ EB,EB=secC (padS b):=⟨_,rfl⟩
 have hEl:EB.length=256:=by rw[hEB,zbe,zke hl]
 have hEo:∀ u∈EB,u.oneCell'=true:=by rw[hEB];exact zeh _
 have hiE:(Tryz.prog.info? 95).map (·.size)=some EB.length:=by rw[hEl];exact zdg
 rw[← hEB] at hB2
 obtain ⟨O,hO⟩:∃ O,O=D.U.map (·.1):=⟨_,rfl⟩
 have hOl:O.length≤1000000:=by rw[hO];simpa using hU
 have hG:=h.g
 rw[← hO] at hG
 obtain ⟨W3,hW3,hB3,g3⟩:=zah W2 3 [keyN j]
 have G3:=tn g2 g3
 have hG3:=hG.nn G3
 have hE3:=hB2.kept g3 (by simp)
 obtain ⟨k,hk⟩:∃ k,k=O.length:=⟨_,rfl⟩
 have ho3:=hG3.ord
 rw[← hk] at ho3 hOl
 have hbase3:u≤W3.heap.size:=by have:=hG3.low _ hG3.inD;omega
 obtain ⟨q,hq⟩:∃ q,q=w.heap.size:=⟨_,rfl⟩
 have hqF:∀ x∈F,x<q:=fun x hx=>by rw[hq];exact (h.low x hx).2
 have hc0:=h.c0
 have hc1:W2.cell? ⟨d,1,none⟩=some ov:=by rw[(hG.nn g2).blk.cell];rfl
 have HIND:=hide h.inD
 obtain ⟨n,hn⟩:∃ n,n=b.length:=⟨_,rfl⟩
 have hl2:¬ (256:Int)<(n:Int):=by omega
 have hl3:¬ 256<n:=by omega
 rw[← hn] at hcp ⊢
 rw[← hq] at hss hcp hB2 hE3
 have hord:∀ g cap w5,w5.ownsRow u 3 1 (.slice (some ⟨g,0,none⟩) (k+1) cap) (k+1) (O.map keyN++[keyN j])→W3.grownBy w5 ov.ownBlock→(ov.ownBlock=some g∨g=W3.heap.size)→g<w5.heap.size →
   (∃ y,w5.cell? ⟨d,1,none⟩=some y)∧w5.frozen? ⟨d,1,none⟩=false∧DiskG u (w5.setCell ⟨d,1,none⟩ (.slice (some ⟨g,0,none⟩) (k+1) cap)) (g::F) d s c m X (.slice (some ⟨g,0,none⟩) (k+1) cap) K D.safe (O++[j]) D.U D.left D.down ∧
   Fr w (w5.setCell ⟨d,1,none⟩ (.slice (some ⟨g,0,none⟩) (k+1) cap)) F∧(g∈F∨w.heap.size≤g)∧Blk (w5.setCell ⟨d,1,none⟩ (.slice (some ⟨g,0,none⟩) (k+1) cap)) q 95 EB∧g≠q∧w.heap.size≤w5.heap.size:=by
  intro g cap w5 ho5 g5 hg5 hlt5
  have n1:some d≠ov.ownBlock:=zap hG3.ord hG3.blk (by decide)
  have B5:=hG3.blk.kept g5 n1
  rw[hk] at ho5 ⊢
  obtain ⟨q1,q2,q3⟩:=hG3.ordered ho5 g5 hg5 hlt5
  refine ⟨⟨_,B5.cell 1⟩,B5.fz 1,q1,(Fr.none G3 F).trans q2 (fun x hx=>Or.inl hx),q3.imp id (fun e=>Nat.le_trans G3.size e),?_,?_,Nat.le_trans G3.size g5.size⟩
  ·refine (hE3.kept g5 (fun e => ?_)).other _ _ (fun e => ?_)
   ·have:=hqF q (hG.inO q e.symm)
    omega
   ·have e' : d=q:=e
    have:=hqF d hG.inD
    omega
  ·rintro rfl
   rcases hg5 with e | e
   ·have:=hqF g (hG.inO g e)
    omega
   ·have:=hE3.lt
    omega
 obtain ⟨HORD,HO3,HB3,HW1⟩:=zh4 hord ho3 hB3 hW1
 have HW3:=hide (show W3=W2.alloc (.cells #[.int .i64 (j:Int)] 3) from hW3)
 obtain ⟨HIE,HEL,HEO,HQF,HK,HO⟩:=zh6 hiE hEl hEo hqF hk hO
 obtain ⟨HQ,HUU,HEB⟩:=zh3 hq hU hEB
 clear hord ho3 hB3 hW1 hW3 hiE hEl hEo hqF hk hO hq hEB hn hl hi hi2 hd e1 hjj hok hj hb hb1 hB1 hB2 hZ hW2 g1 g2 g3 G3 hG hG3 hE3 h hstay hU
 go_enter Tryz.func80,Tryz.ntmps80
 go_upto_region 8 with (first
  | (go_at_call 50;refine c1.mono ?_;rintro e w2 ⟨rfl,e2⟩;subst w2;clear c1)
  | (go_at_call 70;refine c2.mono ?_;rintro e w2 ⟨rfl,e2⟩;subst w2;clear c2)
  | (rw[← uh HW1,← uh HQ]))
 go_upto_region 9 with (rw[← uh HW3];refine zeo rfl _ _ rfl u ov k (O.map keyN) rfl (uh HO3) W2.heap.size j (uh HB3) rfl hOl hbase3 ?_;intro g cap w5 ho5 g5 hg5 hlt5;have HH:=hide (uh HORD g cap w5 ho5 g5 hg5 hlt5);obtain ⟨⟨y5,hy5⟩,hf5,-⟩:=uh HH;clear ho5 g5 hg5 hlt5;try simp only[Act.put,pq1,pq2,pq3])
 obtain ⟨-,-,hG6,hF6,hN6,hE6,hgq,hsz5⟩:=uh HH
 obtain ⟨W6,hW6⟩:∃ W,W=w5.setCell ⟨d,1,none⟩ (.slice (some ⟨g,0,none⟩) (k+1) cap):=⟨_,rfl⟩
 rw[← hW6] at hG6 hF6 hE6 ⊢
 obtain ⟨W6d,hW6d⟩:∃ W,W=W6.drew:=⟨_,rfl⟩
 have gd:W6.grownBy W6d none:=by rw[hW6d];exact zaa (zac _ _)
 have hG6d:=hG6.nn gd
 have hE6d:=hE6.kept gd (by simp)
 obtain ⟨W7,hW7,hB7,g7⟩:=zah W6d 95 EB
 have hG7:=hG6d.nn g7
 have hE7:=hE6d.kept g7 (by simp)
 have hbs:=zsa EB (uh HEL) W6d
 rw[← hW7] at hbs
 obtain ⟨v0,hv0⟩:∃ v,v=(getI K j).getD (.slice none 0 0):=⟨_,rfl⟩
 have hlk6:=hG6d.und.map.look 75 74 Tryz.underlying75 (.slice none 0 0) (zej W6d) j false
 have hlk7:=hG7.und.map.look 75 74 Tryz.underlying75 (.slice none 0 0) (zej W7) j false
 unfold keyN at hlk6 hlk7
 simp only[Bool.false_eq_true,if_false] at hlk6 hlk7
 rw[← hv0] at hlk6 hlk7
 have hV7:=hG7.rowOwn j
 rw[← hv0] at hV7
 obtain ⟨n0,hn0⟩:∃ n,n=(zay D.U j).length:=⟨_,rfl⟩
 obtain ⟨xs0,hxs0⟩:∃ xs,xs=(zay D.U j).flatMap secC:=⟨_,rfl⟩
 rw[← hn0,← hxs0] at hV7
 have hN0:n0≤1000000:=by rw[hn0];exact Nat.le_trans (zfw _ _) (uh HUU)
 have hU7:u≤W7.heap.size:=by have:=hG7.low _ hG7.inD;omega
 have hS6:W6d.cell? ⟨d,2,none⟩=some (.map (some m))∧W6d.rangeAt q 0 EB:=⟨by rw[hG6d.blk.cell];rfl,zan hE6d⟩
 have hS7:W7.cell? ⟨d,2,none⟩=some (.map (some m))∧W7.rangeAt q 0 EB:=⟨by rw[hG7.blk.cell];rfl,zan hE7⟩
 have hqg:∀ x∈g::F,x≠q:=fun x hx e=>by
  rcases List.mem_cons.1 hx with rfl | hx
  ·exact hgq e
  ·have:=uh HQF x hx
   omega
 have hap:∀ g8 cap8 w8,w8.ownsRow u 95 256 (.slice (some ⟨g8,0,none⟩) (n0+1) cap8) (n0+1) (xs0++EB)→W7.grownBy w8 v0.ownBlock→(v0.ownBlock=some g8∨g8=W7.heap.size)→g8<w8.heap.size →
   ∃ w9,(Instr.mapUpdate 75 (.map (some m)) (.int .i64 (j:Int)) (.slice (some ⟨g8,0,none⟩) (n0+1) cap8)).run Tryz.prog w8 = .ok () w9 ∧
     (w8.cell? ⟨d,2,none⟩=some (.map (some m))∧w8.rangeAt q 0 EB)∧(w9.cell? ⟨d,2,none⟩=some (.map (some m))∧w9.rangeAt q 0 EB) ∧
     ∃ F9 X9 ov9 K9 c9,DiskM u w9 F9 d s c9 m X9 ov9 K9 { D with U:=D.U++[(j,padS b)] }∧Fr w w9 F∧∀ x∈F9,x∈F∨w.heap.size≤x:=by
  intro g8 cap8 w8 ho8 g8g hg8 hlt8
  have nr:∀ x,v0.ownBlock=some x→x∈g::F∧x≠s∧x≠d∧x≠m:=fun x hx=>hG7.rowOff j (by rw[← hv0];exact hx)
  have M8:=hG7.und.map.kept g8g (fun e=>(nr m e.symm).2.2.2 rfl)
  obtain ⟨w9,hrun9,hM9,g9,-⟩:=M8.store 75 74 Tryz.underlying75 j (.slice (some ⟨g8,0,none⟩) (n0+1) cap8)
  have hE8:=hE7.kept g8g (fun e=>hqg q (nr q e.symm).1 rfl)
  have B8:=hG7.blk.kept g8g (fun e=>(nr d e.symm).2.2.1 rfl)
  have hE9:=hE8.kept g9 (fun e=>M8.blk hE8 (by cases e;rfl))
  have B9:=B8.kept g9 (fun e=>M8.blk B8 (by cases e;rfl))
  refine ⟨w9,hrun9,⟨by rw[B8.cell];rfl,zan hE8⟩,⟨by rw[B9.cell];rfl,zan hE9⟩,?_⟩
  rw[hv0] at g8g hg8
  obtain ⟨hG9,hF9,hN9⟩:=hG7.under (t:=padS b) (by rw[List.flatMap_append,← hxs0];have:=uh HEB;simpa[this] using ho8) hn0 g8g hg8 hlt8 hM9 g9
  have hOO:O++[j]=(D.U++[(j,padS b)]).map (·.1):=by rw[List.map_append,← uh HO];rfl
  rw[hOO] at hG9
  refine ⟨g8::g::F,X,_,_,c,DiskG.m (D:={ D with U:=D.U++[(j,padS b)] }) hG9 (uh HOK),?_,?_⟩
  ·refine (hF6.trans (Fr.none (tn gd g7) F) (fun x hx=>Or.inl hx)).trans hF9 (fun x hx => ?_)
   rcases List.mem_cons.1 hx with rfl | hx
   ·exact hN6
   ·exact Or.inl hx
  ·intro x hx
   have h76:w.heap.size≤W7.heap.size:=Nat.le_trans hF6.size (tn gd g7).size
   rcases List.mem_cons.1 hx with rfl | hx
   ·rcases hN9 with h1 | h1
    ·rcases List.mem_cons.1 h1 with rfl | h1
     ·exact hN6
     ·exact Or.inl h1
    ·exact Or.inr (Nat.le_trans h76 h1)
   ·rcases List.mem_cons.1 hx with rfl | hx
    ·exact hN6
    ·exact Or.inl hx
 obtain ⟨HAP,HS6,HS7,HW6d,HV7,HB7⟩:=zh6 hap hS6 hS7 hW6d hV7 hB7
 obtain ⟨HN0,HU7,HBS,HNN⟩:=zh4 hN0 hU7 hbs hn0
 clear hap hS6 hS7 hW6d hV7 hB7 hN0 hU7 hbs hn0 hxs0 hv0 hqg hE7 hG7 g7 hW7 hE6d hG6d gd hW6 hG6 hF6 hN6 hE6 hgq hsz5 hy5 hf5 HH HORD HO3 HB3 HQF
 refine wp_region_noPanic ?_
 refine wp_region_held_drew (S:=fun V=>V.cell? ⟨d,2,none⟩=some (.map (some m))∧V.rangeAt q 0 EB) (by kernel_rfl) (by rw[← uh HW6d];exact uh HS6) (fun _ => ?_)
 rw[← uh HW6d]
 refine tq 0 36 (.move (.tmp 0)) ((.pointer (some ⟨d,0,none⟩))) (uh HS6) ?_
 refine tq 1 37 (.nilCheck (.tmp 36)) ((.pointer (some ⟨d,0,none⟩))) (uh HS6) ?_
 refine tq 2 38 (.fieldAddr 77 (.tmp 37) 2) ((.pointer (some ⟨d,2,none⟩))) (uh HS6) ?_
 refine tz 3 39 (.load 75 (.tmp 38)) ((.map (some m))) (uh HS6) ?_ (y:=(Or.inl ⟨by rfl,fun V hV=>by (have hv1:=hV.1;go_simp)⟩))
 (try simp only[pq])
 refine tq 4 40 (.move (.tmp 1)) ((.int .i64 (j:Int))) (uh HS6) ?_
 refine tq 5 41 (.move (.tmp 0)) ((.pointer (some ⟨d,0,none⟩))) (uh HS6) ?_
 refine tq 6 42 (.nilCheck (.tmp 41)) ((.pointer (some ⟨d,0,none⟩))) (uh HS6) ?_
 refine tq 7 43 (.fieldAddr 77 (.tmp 42) 2) ((.pointer (some ⟨d,2,none⟩))) (uh HS6) ?_
 (try simp only[pq])
 refine tz 8 44 (.load 75 (.tmp 43)) ((.map (some m))) (uh HS6) ?_ (y:=(Or.inl ⟨by rfl,fun V hV=>by (have hv1:=hV.1;go_simp)⟩))
 refine tq 9 45 (.move (.tmp 1)) ((.int .i64 (j:Int))) (uh HS6) ?_
 refine tz 11 47 (.load 95 (.tmp 8)) ((.agg EB.toArray)) (uh HS6) ?_ (y:=(yieldsIf_load_mid (by rfl) _ _ rfl _ _ rfl EB _ (fun V hV=>hV.2) Tryz.underlying95 rfl (uh HIE)))
 (try simp only[pq])
 refine wpAnyH_ready (rs:=[10,12]) (by kernel_rfl) (by simp) ?_
 refine AllReadyH.cons (o:=⟨some 46,.lookup 75 (.tmp 44) (.tmp 45) false,_,_,_,_⟩) rfl (fun K9 hK9 => ?_) (AllReadyH.cons (o:=⟨some 48,.buildSlice 74 1 #[(0,(.tmp 47))],_,_,_,_⟩) rfl (fun K9 hK9 => ?_) AllReadyH.nil)
 ·go_simp
  refine hK9.out _ _ (uh HS6) (fun _ => ?_)
  clear hK9 K9
  (try simp only[pq])
  refine rdq 12 (some 48) (.buildSlice 74 1 #[(0,(.tmp 47))]) (fun K9 hK9 => ?_)
  refine zb3 (by rfl) 74 (.tmp 47) rfl (.agg EB.toArray) _ rfl (uh HBS) ?_
  refine hK9.out _ _ (uh HS7) (fun _ => ?_)
  clear hK9 K9
  (try simp only[pq])
  refine rdq 13 (some 49) (.call { callee := .builtin .append,args := #[(.tmp 46),(.tmp 48)],argTypes := #[74,74] }) (fun K9 hK9 => ?_)
  refine zdo (by rfl) _ _ rfl u v0 n0 xs0 rfl (uh HV7) W6d.heap.size EB (uh HB7) (uh HEL) (uh HEO) rfl (uh HN0) (uh HU7) ?_
  intro g8 cap8 w8 ho8 g8g hg8 hlt8
  obtain ⟨w9,hrun9,hS8,hS9,hfin9⟩:=uh HAP g8 cap8 w8 ho8 g8g hg8 hlt8
  obtain ⟨HFIN,HS8,HS9⟩:=zh3 hfin9 hS8 hS9
  clear ho8 g8g hg8 hlt8 hS8 hS9 hfin9
  refine hK9.out _ _ (uh HS8) (fun _ => ?_)
  clear hK9 K9
  (try simp only[pq])
  refine rdq 14 none (.mapUpdate 75 (.tmp 39) (.tmp 40) (.tmp 49)) (fun K9 hK9 => ?_)
  go_simp
  refine hK9.out _ _ (uh HS9) (fun _ => ?_)
  clear hK9 K9
  (try simp only[pq])
  refine wpAnyH_done (by kernel_rfl) ?_ _
  refine NoPanic.normal ?_
  obtain ⟨F9,X9,ov9,K9,c9,hM9,hF9,hN9⟩:=uh HFIN
  have cn:=zey u w9 F9 d s c9 m X9 ov9 K9 _ hM9
  obtain ⟨HF9,HN9⟩:=zh2 hF9 hN9
  clear hM9 hrun9 hF9 hN9
  go_wp2_with (go_at_call 100;refine cn.mono ?_;rintro e w10 ⟨rfl,hM10,g10⟩;have HM10:=hide hM10;have HG10:=hide g10;clear cn hM10 g10)
  go_ret
  exact ⟨rfl,F9,(uh HM10).at,(uh HF9).then (uh HG10) (fun x e=>by cases e;exact Or.inl (uh HIND)),uh HN9⟩
 ·refine zb3 (by rfl) 74 (.tmp 47) rfl (.agg EB.toArray) _ rfl (uh HBS) ?_
  refine hK9.out _ _ (uh HS7) (fun _ => ?_)
  clear hK9 K9
  (try simp only[pq])
  refine rdq 10 (some 46) (.lookup 75 (.tmp 44) (.tmp 45) false) (fun K9 hK9 => ?_)
  go_simp
  refine hK9.out _ _ (uh HS7) (fun _ => ?_)
  clear hK9 K9
  (try simp only[pq])
  refine rdq 13 (some 49) (.call { callee := .builtin .append,args := #[(.tmp 46),(.tmp 48)],argTypes := #[74,74] }) (fun K9 hK9 => ?_)
  refine zdo (by rfl) _ _ rfl u v0 n0 xs0 rfl (uh HV7) W6d.heap.size EB (uh HB7) (uh HEL) (uh HEO) rfl (uh HN0) (uh HU7) ?_
  intro g8 cap8 w8 ho8 g8g hg8 hlt8
  obtain ⟨w9,hrun9,hS8,hS9,hfin9⟩:=uh HAP g8 cap8 w8 ho8 g8g hg8 hlt8
  obtain ⟨HFIN,HS8,HS9⟩:=zh3 hfin9 hS8 hS9
  clear ho8 g8g hg8 hlt8 hS8 hS9 hfin9
  refine hK9.out _ _ (uh HS8) (fun _ => ?_)
  clear hK9 K9
  (try simp only[pq])
  refine rdq 14 none (.mapUpdate 75 (.tmp 39) (.tmp 40) (.tmp 49)) (fun K9 hK9 => ?_)
  go_simp
  refine hK9.out _ _ (uh HS9) (fun _ => ?_)
  clear hK9 K9
  (try simp only[pq])
  refine wpAnyH_done (by kernel_rfl) ?_ _
  refine NoPanic.normal ?_
  obtain ⟨F9,X9,ov9,K9,c9,hM9,hF9,hN9⟩:=uh HFIN
  have cn:=zey u w9 F9 d s c9 m X9 ov9 K9 _ hM9
  obtain ⟨HF9,HN9⟩:=zh2 hF9 hN9
  clear hM9 hrun9 hF9 hN9
  go_wp2_with (go_at_call 100;refine cn.mono ?_;rintro e w10 ⟨rfl,hM10,g10⟩;have HM10:=hide hM10;have HG10:=hide g10;clear cn hM10 g10)
  go_ret
  exact ⟨rfl,F9,(uh HM10).at,(uh HF9).then (uh HG10) (fun x e=>by cases e;exact Or.inl (uh HIND)),uh HN9⟩
end Go.Proofs.YtoilcpdhhlcidaaGreatDoor

/- Lemmas. -/
namespace Go.Proofs.YtoilcpdhhlcidaaGreatDoor
open Go.RowKit
open Go.ChangeMaps (setBlock)
structure IoverAt (w:World) (m r:Nat) (K:List (Nat × Value)) (done:List Nat):Prop where
 is:∃ A clock seen,w.heap[m]? = some (.map A clock)∧w.heap[r]? = some (.mapIter (some m) clock seen clock)∧A.toList.map (fun e=>(e.key,e.val))=K.map (fun p=>(keyN p.1,p.2))∧(∀ e∈A.toList,e.born<clock)∧(A.toList.map (·.born)).Nodup∧(∀ e∈A.toList,∀ x,e.key=keyN x→(seen.contains e.born=true↔x∈done))
 once:(K.map (·.1)).Nodup
 nodup:done.Nodup
 inn:∀ x∈done,x∈K.map (·.1)
theorem IoverAt.map {w:World} {m r:Nat} {K:List (Nat × Value)} {done:List Nat} (h:IoverAt w m r K done):ImapAt w m K:=by
 obtain ⟨A,c,s,h1,h2,h3,h4,h5,h6⟩:=h.is
 exact ⟨⟨A,c,h1,h3,h4,h5⟩,h.once⟩
theorem IoverAt.lt {w:World} {m r:Nat} {K:List (Nat × Value)} {done:List Nat} (h:IoverAt w m r K done):r<w.heap.size:=by
 obtain ⟨A,c,s,h1,h2,h3⟩:=h.is
 exact (Array.getElem?_eq_some_iff.1 h2).1
theorem IoverAt.kept {w a:World} {m r:Nat} {K:List (Nat × Value)} {done:List Nat} {q:Option Nat} (h:IoverAt w m r K done) (g:w.grownBy a q) (h1:some m≠q) (h2:some r≠q):IoverAt a m r K done:=by
 have hm:=h.map.lt
 have hr:=h.lt
 obtain ⟨A,c,s,k1,k2,k3⟩:=h.is
 exact ⟨⟨A,c,s,by rw[g.block m hm h1];exact k1,by rw[g.block r hr h2];exact k2,k3⟩,h.once,h.nodup,h.inn⟩
theorem IoverAt.none {w a:World} {m r:Nat} {K:List (Nat × Value)} {done:List Nat} (h:IoverAt w m r K done) (g:w.grownBy a Option.none):IoverAt a m r K done:=h.kept g (by simp) (by simp)
theorem IoverAt.own {w:World} {m r base k n:Nat} {K:List (Nat × Value)} {done:List Nat} {t:TypeId} {v:Value} {xs:List Value} (h:IoverAt w m r K done) (ho:w.ownsRow base t k v n xs):some r≠v.ownBlock:=by
 obtain ⟨_,_,_,_,h,_⟩:=h.is
 rcases ho.2 with ⟨rfl,_⟩ | ⟨g,cap,cur,rfl,_,hh,_⟩
 ·intro e;cases e
 ·intro e
  have:r=g:=by simpa[Value.ownBlock] using e
  subst this
  rw[hh] at h
  cases h
theorem ImapAt.over {w:World} {m:Nat} {K:List (Nat × Value)} (h:ImapAt w m K) (t e:TypeId) (ht:Tryz.prog.underlying t=some (.map 3 e)) :
  ∃ W,(Instr.range t (.map (some m))).run Tryz.prog w = .ok (.pointer (some ⟨w.heap.size,0,Option.none⟩)) W∧IoverAt W m w.heap.size K []∧w.grownBy W Option.none:=by
 obtain ⟨A,c,h1,h2,h3,h4⟩:=h.is
 have hlt:=h.lt
 refine ⟨_,run_range_map w t _ e m A c ht h1,⟨⟨A,c,#[],?_,heap_alloc_new w _,h2,h3,h4,fun e _ x _=>by simp⟩,h.once,by simp,by simp⟩,zaf (zac _ _) _⟩
 rw[heap_alloc_old w _ hlt]
 exact h1
theorem IoverAt.next {w:World} {m r:Nat} {K:List (Nat × Value)} {done:List Nat} (h:IoverAt w m r K done) (ty:TypeId) :
  ((∀ x∈K.map (·.1),x∈done)∧(Instr.next (.pointer (some ⟨r,0,Option.none⟩)) false ty).run Tryz.prog w = .ok (.tuple #[.bool false]) w) ∨
    ∃ x v w2,(x,v)∈K∧x∉done∧(Instr.next (.pointer (some ⟨r,0,Option.none⟩)) false ty).run Tryz.prog w = .ok (.tuple #[.bool true,keyN x,v]) w2∧IoverAt w2 m r K (done++[x])∧(Instr.entry (.pointer (some ⟨r,0,Option.none⟩))).run Tryz.prog w2 = .ok (.tuple #[keyN x,v]) w2∧w.grownBy w2 (some r)∧w2.heap.size=w.heap.size:=by
 have hrl:=h.lt
 obtain ⟨A,c,s,h1,h2,h3,h4,h5,h6⟩:=h.is
 have hmem:∀ e∈A.toList,∃ x v,(x,v)∈K∧e.key=keyN x∧e.val=v:=fun e he=>by
  have:(e.key,e.val)∈A.toList.map (fun e=>(e.key,e.val)):=List.mem_map.2 ⟨e,he,rfl⟩
  rw[h3] at this
  obtain ⟨p,hp,hpe⟩:=List.mem_map.1 this
  simp only[Prod.mk.injEq] at hpe
  exact ⟨p.1,p.2,hp,hpe.1.symm,hpe.2.symm⟩
 rcases run_next_at (P:=Tryz.prog) w ty r m c c s A c h2 h1 h4 (Nat.le_refl _) with ⟨hl,hr⟩ | ⟨e,he,w1,hw1,hr⟩
 ·refine Or.inl ⟨fun x hx => ?_,hr⟩
  obtain ⟨p,hp,rfl⟩:=List.mem_map.1 hx
  have:(keyN p.1,p.2)∈K.map (fun p=>(keyN p.1,p.2)):=List.mem_map.2 ⟨p,hp,rfl⟩
  rw[← h3] at this
  obtain ⟨e,he,hek⟩:=List.mem_map.1 this
  simp only[Prod.mk.injEq] at hek
  refine (h6 e he p.1 hek.1).1 ?_
  cases hs:s.contains e.born with
  | true=>rfl
  | false =>
    exfalso
    have hin:e∈(leftOf A s).toList:=by
     unfold leftOf
     have:e∈A:=by simpa using he
     simp[this]
     simpa using hs
    have:(leftOf A s).toList.length=0:=by simpa using hl
    rw[List.length_eq_zero_iff] at this
    rw[this] at hin
    simp at hin
 ·have heA:e∈A.toList∧s.contains e.born=false:=by
   unfold leftOf at he
   have he2:e∈A∧e.born∉s:=by simpa using he
   exact ⟨by simpa using he2.1,by simpa using he2.2⟩
  obtain ⟨x,v,hxv,hek,hev⟩:=hmem e heA.1
  have hxd:x∉done:=fun hx=>by
   have:=(h6 e heA.1 x hek).2 hx
   rw[heA.2] at this
   cases this
  have hnm:m≠r:=by
   rintro rfl
   rw[h1] at h2
   cases h2
  have hb:∀ o:Obj,(setBlock w1 r o).heap[r]? = some o∧(setBlock w1 r o).heap[m]? = w.heap[m]? ∧ w.grownBy (setBlock w1 r o) (some r)∧(setBlock w1 r o).heap.size=w.heap.size:=fun o=>by
   have hh:w1.heap=w.heap:=by rcases hw1 with rfl | rfl <;> rfl
   refine ⟨?_,?_,⟨?_,?_,?_,?_,fun k hk hne => ?_⟩,?_⟩
   ·simp[setBlock,hh,hrl]
   ·simp[setBlock,hh,Ne.symm hnm]
   ·rcases hw1 with rfl | rfl <;> rfl
   ·rcases hw1 with rfl | rfl <;> rfl
   ·rcases hw1 with rfl | rfl <;> rfl
   ·simp[setBlock,hh]
   ·have:r≠k:=fun e=>hne (by rw[e])
    simp[setBlock,hh,this]
   ·simp[setBlock,hh]
  obtain ⟨q1,q2,q3,q4⟩:=hb (.mapIter (some m) c (s.push e.born) c)
  refine Or.inr ⟨x,v,_,hxv,hxd,by rw[hek,hev] at hr;exact hr,⟨⟨A,c,s.push e.born,by rw[q2];exact h1,q1,h3,h4,h5,fun e' he' x' hk' => ?_⟩,h.once,?_,?_⟩,?_,q3,q4⟩
  ·rw[Array.contains_push,Bool.or_eq_true,h6 e' he' x' hk',List.mem_append,List.mem_singleton]
   constructor
   ·rintro (h7 | h7)
    ·exact Or.inl h7
    ·right
     have h8:e'.born=e.born:=by simpa using h7
     have h9:=zc3 h5 he' heA.1 h8
     rw[h9,hek] at hk'
     exact (zkn hk').symm
   ·rintro (h7 | rfl)
    ·exact Or.inl h7
    ·right
     have:e'=e:=by
      have hk2:(A.toList.map (·.key)).Nodup:=by
       have e1:A.toList.map (·.key)=(K.map (·.1)).map keyN:=by
        have:=congrArg (List.map Prod.fst) h3
        rw[List.map_map,List.map_map] at this
        rw[List.map_map]
        exact this
       rw[e1]
       exact List.Pairwise.map _ (fun a b hne he=>hne (zkn he)) h.once
      exact zc3 hk2 he' heA.1 (by rw[hk',hek])
     rw[this]
     simp
  ·exact List.nodup_append.2 ⟨h.nodup,by simp,fun a ha b hb=>by
    rw[List.mem_singleton.1 hb]
    rintro rfl
    exact hxd ha⟩
  ·intro y hy
   rcases List.mem_append.1 hy with hy | hy
   ·exact h.inn y hy
   ·rw[List.mem_singleton.1 hy]
    exact List.mem_map.2 ⟨_,hxv,rfl⟩
  ·have:=run_entry_at (P:=Tryz.prog) (setBlock w1 r (.mapIter (some m) c (s.push e.born) c)) r m c s A c e q1 (by rw[q2];exact h1) heA.1 h5
   rw[hek,hev] at this
   exact this
end Go.Proofs.YtoilcpdhhlcidaaGreatDoor
