/- Lemmas. -/
import Derived.Test.YtoilcpdhhlcidaaGreatDoorSpCk
import Derived.Test.YtoilcpdhhlcidaaGreatDoorSpF
import Derived.Deep.MidRow
import Derived.Maps.AppendAt
import Derived.Maps.OwnIn
namespace Go.Proofs.YtoilcpdhhlcidaaGreatDoor
open Go.RowKit Go.Shelf
attribute [local go_sem] Oper.semAt_some
def Sect (w:World) (base:Nat) (v:Value) (L:List (List UInt8)):Prop :=
 ∃ Vs:List Value,w.ownsRow base 53 1 v L.length Vs∧∀ (i:Nat) (u:List UInt8),L[i]? = some u→∃ p c,Vs[i]? = some (Value.slice (some ⟨p,0,none⟩) 256 c)∧base≤p∧Bts w (some ⟨p,0,none⟩) c u∧u.length=256
theorem Sect.kept {w a:World} {base:Nat} {v:Value} {L:List (List UInt8)} {r:Option Nat} (h:Sect w base v L) (g:w.grownBy a r) (hr:∀ x,r=some x→w.heap.size≤x∨∃ o:Obj,w.heap[x]? = some o∧o.isCells=false):Sect a base v L:=by
 obtain ⟨Vs,h1,h2⟩:=h
 have hcell:∀ (p:Addr) (u:Value),w.cell? p=some u→some p.block≠r:=fun p u hp e=>by
  rcases hr _ e.symm with h3 | ⟨o,h3,h4⟩
  ·have:=World.block_lt_of_cell? w p hp
   omega
  ·cases o <;> simp[World.cell?,h3,Obj.isCells] at hp h4
 refine ⟨Vs,h1.kept g ?_,fun i u hu => ?_⟩
 ·rcases h1.2 with ⟨rfl,_⟩ | ⟨q,cap,cur,rfl,_,hh,_⟩
  ·exact Or.inl rfl
  ·refine Or.inr fun e => ?_
   rcases hr q e.symm with h3 | ⟨o,h3,h4⟩
   ·have:=(Array.getElem?_eq_some_iff.1 hh).1
    omega
   ·rw[hh] at h3;cases h3;simp[Obj.isCells] at h4
 ·obtain ⟨p,c,q1,q2,q3,q4⟩:=h2 i u hu
  refine ⟨p,c,q1,q2,⟨q3.zip,q3.fits,q3.most,q3.shape,fun ad e j hj=>g.cell (q3.cell ad e j hj) (hcell _ _ (q3.cell ad e j hj))⟩,q4⟩
theorem zoc {W w' : World} {base g k0 B p c:Nat} {v' : Value} {Vs:List Value} {L:List (List UInt8)} {u:List UInt8} (h1:W.ownsRow base 53 1 (.slice (some ⟨g,0,none⟩) L.length k0) L.length Vs)
  (h2:∀ (i:Nat) (u:List UInt8),L[i]? = some u→∃ p c,Vs[i]? = some (Value.slice (some ⟨p,0,none⟩) 256 c)∧base≤p∧Bts W (some ⟨p,0,none⟩) c u∧u.length=256) (hL:0<L.length)
  (hB:W.cell? ⟨B,0,none⟩=some (.slice (some ⟨g,0,none⟩) L.length k0)) (fr:Fr W w' [g,B]) (hr:w'.ownsRow base 53 1 v' (L.length+1) (Vs++[.slice (some ⟨p,0,none⟩) 256 c])) (hp:base≤p) (hb:Bts w' (some ⟨p,0,none⟩) c u) (hu:u.length=256):Sect w' base v' (L++[u]):=by
 have hVl:Vs.length=L.length:=by have:=h1.1;simpa using this
 have hg0:∃ q d,W.cell? ⟨g,0,none⟩=some (Value.slice (some ⟨q,0,none⟩) 256 d):=by
  obtain ⟨q,d,e,_⟩:=h2 0 L[0] (List.getElem?_eq_getElem hL)
  have:=h1.cells (g:=g) rfl 0 _ e
  rw[Addr.add_lit] at this
  exact ⟨q,d,this⟩
 refine ⟨_,by rw[List.length_append];exact hr,fun i z hz => ?_⟩
 by_cases hi:i<L.length
 ·rw[List.getElem?_append_left hi] at hz
  obtain ⟨q,d,e,q1,q2,q3⟩:=h2 i z hz
  have hq0:=q2.cell _ rfl 0 (by omega)
  refine ⟨q,d,by rw[List.getElem?_append_left (by omega)];exact e,q1,fr.bts0 q2 (fun ad e2 _ hm => ?_),q3⟩
  cases e2
  simp only[List.mem_cons,List.not_mem_nil,or_false] at hm
  rcases hm with rfl | rfl
  ·obtain ⟨_,_,h3⟩:=hg0
   rw[h3] at hq0;cases hq0
  ·rw[hB] at hq0;cases hq0
 ·have hiL:i=L.length:=by
   have:=(List.getElem?_eq_some_iff.1 hz).1
   simp only[List.length_append,List.length_cons,List.length_nil] at this
   omega
  subst hiL
  rw[List.getElem?_append_right (Nat.le_refl _),Nat.sub_self] at hz
  cases hz
  exact ⟨p,c,by rw[List.getElem?_append_right (by omega),hVl,Nat.sub_self];rfl,hp,hb,hu⟩
theorem zen:(Tryz.prog.info? 53).map (fun i=>(i.zero,i.size,i.bytes))=some (some (.slice none 0 0),1,24):=by kernel_rfl
theorem zp1 {w:World} {b o c:Nat} {x:List UInt8} (h:Bts w (some ⟨b,o,none⟩) c x) (k:Nat):Bts w (some ⟨b,o+255*k,none⟩) (prL x.length k) ((x.drop (255*k)).take 255):=by
 have hl:((x.drop (255*k)).take 255).length=prL x.length k:=by rw[List.length_take,List.length_drop];rfl
 have hm:=h.most
 have hf:=h.fits
 refine ⟨(fun e=>by cases e),Nat.le_of_eq hl,by unfold prL;omega,(fun ad e _=>by cases e;rfl),fun ad e i hi => ?_⟩
 cases e
 have hi2:255*k+i<x.length:=by rw[hl] at hi;unfold prL at hi;omega
 have:=h.cell _ rfl (255*k+i) hi2
 rw[Nat.add_assoc]
 simpa[List.getElem_take,List.getElem_drop] using this
theorem zl8 (x:List UInt8) (k:Nat):(secB x k).map bv=[.int .u8 2]++(((x.drop (255*k)).take 255).map bv++(List.replicate (255 - ((x.drop (255*k)).take 255).length) (0:UInt8)).map bv):=by
 unfold secB
 rw[List.map_cons,List.map_append]
 rfl
structure SeI (w:World) (Bl Bs b o k c:Nat) (x:List UInt8) (L:List (List UInt8)) (W:World):Prop where
 box:∃ v,Boxed W Bl 126 v∧Sect W w.heap.size v L
 txt:Bts W (some ⟨b,o,none⟩) c x
 cs:W.cell? ⟨Bs,0,none⟩=some (.slice (some ⟨b,o,none⟩) k c)
 cn:W.cell? ⟨Bs+1,0,none⟩=some (.int .i64 255)
 gb:w.grownBy W none
theorem SeI.own {β:Type} {w:World} {Bl Bs b o k c B:Nat} {x:List UInt8} (f:β→List (List UInt8)) (hB:w.heap.size≤B):OwnFrom B (fun (s:β) W=>SeI w Bl Bs b o k c x (f s) W):=by
 intro s W W' row h hg hr
 have hr2:∀ r,row=some r→∃ o:Obj,W.heap[r]? = some o∧o.isCells=false:=fun r e=>(hr r e).2
 obtain ⟨v,h1,h2⟩:=h.box
 refine ⟨⟨v,h1.kept hg (fun e => ?_),h2.kept hg (fun y e=>Or.inr (hr2 y e))⟩,⟨h.txt.zip,h.txt.fits,h.txt.most,h.txt.shape,fun ad e i hi=>cell_kept (h.txt.cell ad e i hi) hg hr2⟩,cell_kept h.cs hg hr2,cell_kept h.cn hg hr2,zae h.gb hg (fun y e=>Or.inl (Nat.le_trans hB (hr y e).1))⟩
 obtain ⟨o,q1,q2⟩:=hr2 _ e.symm
 rw[show W.heap[Bl]? = _ from h1] at q1
 cases q1
 simp[Obj.isCells] at q2
theorem zrm {p q B:Nat} (hp:p<B) (hq:q<B) (W:World) (l:Nat) (o o' : Obj) (hl:B≤l) (_:W.heap[l]? = some o) (_:o.isCells=false) (_:o.isWalk=false):KpB p q W (W.putObj l o') :=
 ⟨fun j=>World.cell?_of_block (World.putObj_heap_other (show p≠l by omega)),fun j=>World.cell?_of_block (World.putObj_heap_other (show q≠l by omega))⟩
set_option maxRecDepth 100000 in
set_option maxHeartbeats 4000000 in
theorem zgi (w:World) (g n:Nat) (sl:List UInt8) (h32:sl.length=32) (b o c:Nat) (x:List UInt8) (hb:Bts w (some ⟨b,o,none⟩) c x) (hx:0<x.length) (h4:x.length<4294967296) :
  Calls Tryz.prog 74 #[.agg (rcC g n x.length sl (.slice (some ⟨b,o,none⟩) x.length c)).toArray] w fun e w'=>∃ v,e = .returned v∧Sect w' w.heap.size v (za8 (mkB g n x.length sl)::(List.range (secN x.length)).map (secB x))∧w.grownBy w' none:=by
 obtain ⟨k,hk⟩:∃ k,k=x.length:=⟨_,rfl⟩
 obtain ⟨M,hM⟩:∃ M,M=mkC g n k sl:=⟨_,rfl⟩
 obtain ⟨R,hR⟩:∃ R,R=M++[.slice (some ⟨b,o,none⟩) k c]:=⟨_,rfl⟩
 have eR:rcC g n k sl (.slice (some ⟨b,o,none⟩) k c)=R:=by rw[hR,hM];rfl
 rw[← hk,eR]
 have hMl:M.length=35:=by rw[hM];exact zdl h32
 obtain ⟨W1,hW1,hB1,g1⟩:=zah w 106 R
 have hmr:W1.rangeAt w.heap.size 0 M:=by
  have h:Blk W1 w.heap.size 106 ([]++(M++[.slice (some ⟨b,o,none⟩) k c])):=by rw[List.nil_append,← hR];exact hB1
  exact h.range
 have hct:W1.cell? ⟨w.heap.size,35,none⟩=some (.slice (some ⟨b,o,none⟩) k c):=by
  rw[hB1.cell 35,hR,List.getElem?_append_right (by omega),hMl];rfl
 have cs:=zl7 W1 g n k sl h32
 rw[← hM] at cs
 have HMI:=hide (show (Tryz.prog.info? 104).map (·.size)=some M.length by rw[hMl];exact zel)
 obtain ⟨HW1,HG1,HCT⟩:=zh3 hW1 g1 hct
 have HBX:=hide (hb.kept g1 (fun _ e=>by cases e))
 have HK:=hide hk
 have HBW:b<w.heap.size:=hb.lt _ rfl (fun e=>by rw[e] at hx;exact absurd hx (Nat.lt_irrefl _))
 have HS1:=hide (show W1.heap.size=w.heap.size+1 by rw[hW1,World.size_alloc])
 have H32:=hide h32
 clear hW1 hB1 g1 hM hR eR hMl hct hb hk h32
 refine (callsIn_wide (n:=6)).1 ?_
 have hfC:Fence.wide.fn 111:=trivial
 refine callsIn_of_wp_marks Tryz.func74 rfl trivial ?_ rfl
 simp only[Tryz.ntmps74,List.size_toArray,List.length_cons,List.length_nil,Nat.reduceAdd,Nat.reduceSub,Array.replicate_succ,Array.replicate_zero,List.push_toArray,List.append_toArray,List.nil_append,List.cons_append]
 refine wpIn_wide.2 ?_
 go_wp2_with (first
  | (rw[← uh HW1])
  | (refine wpList_load_mid rfl 104 _ rfl w.heap.size 0 rfl M _ hmr Tryz.underlying104 rfl (uh HMI) ?_;clear hmr)
  | (go_at_call 93;refine cs.mono ?_;rintro e w2 ⟨v2,rfl,ho2,g2⟩;obtain ⟨b2,k2,hv2⟩:=zct ho2 (by decide);subst hv2;have HO2:=hide ho2;have HG2:=hide (tn (uh HG1) g2);have HGB:=hide (show W1.grownBy w2 none from g2);obtain ⟨W4,hW4⟩:∃ W,W=(w2.alloc (.cells #[.slice (some ⟨b2,0,none⟩) 256 k2] 53)).alloc (.cells #[.slice (some ⟨w2.heap.size,0,none⟩) 1 1] 126):=⟨_,rfl⟩;have hc4:W4.cell? ⟨w.heap.size,35,none⟩=some (.slice (some ⟨b,o,none⟩) k c):=by { rw[hW4];exact (zaf (zaf (zac w2 none) _) _).cell (g2.cell (uh HCT) (by simp)) (by simp) };have HBX2:=hide ((uh HBX).kept g2 (fun _ e=>by cases e));have HW4:=hide hW4;clear cs ho2 g2 hW4)
  | (rw[← uh HW4])
  | (go_at_call 94;refine (zn7 _ _ _ _).mono ?_;rintro e w3 ⟨rfl,hw3⟩))
 subst hw3
 rename_i KK hKK
 refine (wpIn_wide (n:=6)).1 ?_
 obtain ⟨W5,hW5⟩:∃ W,W=(W4.alloc (.cells #[.slice (some ⟨b,o,none⟩) k c] 53)).alloc (.cells #[.int .i64 255] 3):=⟨_,rfl⟩
 rw[← hW5]
 have hW4:=uh HW4
 have s4:W4.heap.size=w2.heap.size+2:=by rw[hW4];simp
 have s5:W5.heap.size=W4.heap.size+2:=by rw[hW5];simp
 have g24:w2.grownBy W4 none:=by rw[hW4];exact zaf (zaf (zac _ _) _) _
 have g45:W4.grownBy W5 none:=by rw[hW5];exact zaf (zaf (zac _ _) _) _
 have hs0:W5.cell? ⟨W4.heap.size,0,none⟩=some (.slice (some ⟨b,o,none⟩) k c):=by
  rw[hW5]
  have h:Blk (W4.alloc (.cells #[.slice (some ⟨b,o,none⟩) k c] 53)) W4.heap.size 53 [.slice (some ⟨b,o,none⟩) k c]:=Blk.new W4 53 [.slice (some ⟨b,o,none⟩) k c]
  exact (h.alloc _).cell 0
 have hn0:W5.cell? ⟨W4.heap.size+1,0,none⟩=some (.int .i64 255):=by
  rw[hW5]
  have h:=Blk.new (W4.alloc (.cells #[.slice (some ⟨b,o,none⟩) k c] 53)) 3 [.int .i64 255]
  rw[World.size_alloc] at h
  exact h.cell 0
 have hbl:Boxed W4 (w2.heap.size+1) 126 (.slice (some ⟨w2.heap.size,0,none⟩) 1 1):=by
  rw[hW4]
  have h:=Boxed.new (w2.alloc (.cells #[.slice (some ⟨b2,0,none⟩) 256 k2] 53)) 126 (.slice (some ⟨w2.heap.size,0,none⟩) 1 1)
  rw[World.size_alloc] at h
  exact h
 have hbl5:Boxed W5 (w2.heap.size+1) 126 (.slice (some ⟨w2.heap.size,0,none⟩) 1 1):=hbl.kept g45 (by simp)
 have hrow4:W4.ownsRow w.heap.size 53 1 (.slice (some ⟨w2.heap.size,0,none⟩) 1 1) 1 [.slice (some ⟨b2,0,none⟩) 256 k2]:=by
  have h0:Blk (w2.alloc (.cells #[.slice (some ⟨b2,0,none⟩) 256 k2] 53)) w2.heap.size 53 [.slice (some ⟨b2,0,none⟩) 256 k2]:=Blk.new w2 53 [.slice (some ⟨b2,0,none⟩) 256 k2]
  rw[hW4]
  exact ⟨rfl,Or.inr ⟨w2.heap.size,1,_,rfl,(uh HG2).size,h0.alloc _,Nat.le_refl _,by unfold maxLen;decide,rfl,rfl⟩⟩
 obtain ⟨S0,hS0⟩:∃ S,S=za8 (mkB g n k sl):=⟨_,rfl⟩
 have hS0l:S0.length=256:=by rw[hS0];exact zec (zoa (uh H32))
 have ho2:=uh HO2
 rw[← hS0] at ho2
 have hb2:Bts w2 (some ⟨b2,0,none⟩) k2 S0∧w.heap.size≤b2:=by
  obtain ⟨-,a2,c2,e2,q1,q2⟩:=zc1 (l:=S0) ho2
  injection e2 with e3 _ e4
  subst e3 e4
  exact ⟨q1,Nat.le_trans (uh HG1).size (q2 _ rfl).1⟩
 have hsect:Sect W5 w.heap.size (.slice (some ⟨w2.heap.size,0,none⟩) 1 1) [S0] :=
  ⟨_,hrow4.kept g45 (Or.inr (by simp[Value.ownBlock])),fun i u hu=>by
   have hi:i=0:=by have:=(List.getElem?_eq_some_iff.1 hu).1;simp at this;exact this
   subst hi
   simp only[List.getElem?_cons_zero,Option.some.injEq] at hu
   subst hu
   exact ⟨b2,k2,rfl,hb2.2,(hb2.1.kept g24 (fun _ e=>by cases e)).kept g45 (fun _ e=>by cases e),hS0l⟩⟩
 have hbx5:Bts W5 (some ⟨b,o,none⟩) c x:=((uh HBX2).kept g24 (fun _ e=>by cases e)).kept g45 (fun _ e=>by cases e)
 have hg5:w.grownBy W5 none:=tn (tn (uh HG2) g24) g45
 have hkx:=uh HK
 have hf:=hbx5.fits
 have hSw:=hg5.size
 have hgs:w.heap.size+1≤w2.heap.size:=by rw[← uh HS1];exact Nat.le_trans (Nat.le_of_eq rfl) (uh HGB).size
 refine wpIn_rangeFunc_ownF rfl (by decide) (gf:=111) (lb := #[.pointer (some ⟨W4.heap.size,0,none⟩),.pointer (some ⟨W4.heap.size+1,0,none⟩)]) rfl hfC (enters_of Tryz.func111 (by kernel_rfl) rfl)
  (zjz Fence.wide 5 hfC rfl (by decide) W4.heap.size (W4.heap.size+1) b o k c (secN k) rfl (by omega) (by omega) (by omega) W5 hs0 hn0 (by omega) (by omega))
  (fun h1 h2=>h1.trans h2) (fun W l o1 o2 h1 h2 h3 h4=>zrm (by omega) (by omega) W l o1 o2 h1 h2 h3 h4) (Below.refl _ _) (fun _=>rfl)
  (fun pre W=>SeI w (w2.heap.size+1) W4.heap.size b o k c x (S0::pre.map (fun y : {j:Nat // j<secN k}=>secB x y.1)) W)
  (fun _ _ _=>False) (SeI.own (fun pre:List {j:Nat // j<secN k}=>S0::pre.map (fun y=>secB x y.1)) hSw) (fun _ _ _ _ _ hs _ _=>hs)
  ⟨⟨_,hbl5,hsect⟩,hbx5,hs0,hn0,hg5⟩
  (fun y=>{ tmps := #[.agg R.toArray,.pointer (some ⟨w.heap.size,0,none⟩),.slice none 0 0,.pointer (some ⟨w2.heap.size+1,0,none⟩),prV b o k y.1,undef,.pointer (some ⟨w.heap.size,0,none⟩),.agg M.toArray,.slice (some ⟨b2,0,none⟩) 256 k2,.slice (some ⟨w2.heap.size,0,none⟩) 1 1,.pointer (some ⟨w.heap.size,35,none⟩),.slice (some ⟨b,o,none⟩) k c,.func (.func 111) #[] #[.pointer (some ⟨W4.heap.size,0,none⟩),.pointer (some ⟨W4.heap.size+1,0,none⟩)],prV b o k y.1,undef,undef,undef,undef,undef,undef,undef,undef,undef,undef,undef,undef],defers:=[] }) ?assign ?body ?done ?stop
 case assign =>
  intro l y W K hK
  clear hkx hW4 s4 s5 hgs hSw hf hS0l hS0 hW5
  unfold prV at hK ⊢
  gi_wp2
  exact hK
 case done =>
  rintro D ys W hD hys hI hK
  obtain ⟨v,hv,hs⟩:=hI.box
  have hc:=hv.cell
  have hfin:S0::ys.map (fun y : {j:Nat // j<secN k}=>secB x y.1)=za8 (mkB g n k sl)::(List.range (secN k)).map (secB x):=by
   rw[hS0,← hys,List.map_map];rfl
  rw[hfin] at hs
  have hgb:=hI.gb
  have hDw:w.heap.size≤D:=by omega
  have HF:=hide (show Sect (W.putObj D (.deferred none)) w.heap.size v (za8 (mkB g n k sl)::(List.range (secN k)).map (secB x))∧w.grownBy (W.putObj D (.deferred none)) none from
   ⟨hs.kept (grownBy_putObj' W D _) (fun y e=>by cases e;exact Or.inr ⟨_,hK,rfl⟩),zae hgb (grownBy_putObj' W D _) (fun y e=>by cases e;exact Or.inl hDw)⟩)
  clear hI hs hfin hgb hys hS0 hS0l ho2 hb2 hsect hbx5 hg5 hbl5 hbl hrow4 hs0 hn0 g24 g45 hW5 hW4 s4 s5 hkx hf hSw hgs
  show KK _ _
  refine hKK _ _ ?_
  refine (wpIn_wide (n:=6)).1 ?_
  gi_wp2
  refine ⟨by simp,.inl ⟨_,_,rfl,run_takeDeferred hK,?_⟩⟩
  exact ⟨_,results_tmp rfl _ _ _,v,rfl,uh HF⟩
 case stop =>
  rintro D c pre W _ _ h _
  exact h.elim
 case body =>
  rintro l pre ⟨j,hj⟩ W hI hlt
  have hjk:255*j<k:=by unfold secN at hj;omega
  obtain ⟨v,hv,Vs,h1,h2⟩:=hI.box
  obtain ⟨L,hLd⟩:∃ L,L=S0::pre.map (fun y : {j:Nat // j<secN k}=>secB x y.1):=⟨_,rfl⟩
  have hLn:S0::(pre++[(⟨j,hj⟩ : {j:Nat // j<secN k})]).map (fun y : {j:Nat // j<secN k}=>secB x y.1)=L++[secB x j]:=by rw[hLd,List.map_append];rfl
  rw[← hLd] at h1 h2
  have hLl:L.length=pre.length+1:=by rw[hLd];simp
  have hLb0:secN k≤19000000:=by unfold secN;omega
  have hLb:L.length≤20000000:=by omega
  obtain ⟨g0,k0,hvg⟩:=zct h1 (by omega)
  subst hvg
  obtain ⟨pt,hpt⟩:∃ q,q=(x.drop (255*j)).take 255:=⟨_,rfl⟩
  obtain ⟨e,he⟩:∃ e,e=prL k j:=⟨_,rfl⟩
  have hel:pt.length=e:=by rw[hpt,he,List.length_take,List.length_drop,hkx];rfl
  have he255:e≤255:=by rw[he];unfold prL;omega
  obtain ⟨W6,hmk,hB6,g6,-⟩:=zhc W 256 (by decide)
  obtain ⟨p,hp⟩:∃ p,p=W.heap.size:=⟨_,rfl⟩
  rw[← hp] at hmk hB6
  have hmk2:(Instr.makeSlice 53 (.int .i64 256) (.int .i64 256)).run Tryz.prog W = .ok (.slice (some ⟨p,0,none⟩) 256 256) W6:=hmk
  have hcw:W6.cell? ⟨p,0,none⟩=some (.int .u8 0):=by rw[hB6.cell 0];rfl
  have hcz:=hB6.fz 0
  obtain ⟨W7,hW7⟩:∃ V,V=W6.setCell ⟨p,0,none⟩ (.int .u8 2):=⟨_,rfl⟩
  have g7:W.grownBy W7 none:=by rw[hW7];exact zam g6 _ _ (Or.inl (Nat.le_of_eq hp.symm))
  have hB7:Blk W7 p 5 ([.int .u8 2]++((List.replicate e (0:UInt8)).map bv++(List.replicate (255 - e) (0:UInt8)).map bv)):=by
   have:=hB6.set 0 (.int .u8 2)
   rw[← hW7] at this
   have e1:((List.replicate 256 (0:UInt8)).map bv).set 0 (.int .u8 2)=[.int .u8 2]++((List.replicate e (0:UInt8)).map bv++(List.replicate (255 - e) (0:UInt8)).map bv):=by
    rw[← List.map_append,List.replicate_append_replicate,show e+(255 - e)=255 by omega,show (256:Nat)=255+1 from rfl,List.replicate_succ,List.map_cons,List.set_cons_zero]
    rfl
   rw[e1] at this
   exact this
  have hs1:∀ V,(Instr.slice 53 (.slice (some ⟨p,0,none⟩) 256 256) (some (.int .i64 1)) none none).run Tryz.prog V = .ok (.slice (some ⟨p,1,none⟩) 255 255) V:=fun V=>by
   have:=zb1 (P:=Tryz.prog) V 53 5 Tryz.underlying53 (fun w=>by kernel_rfl) (some ⟨p,0,none⟩) 256 256 1 (by decide)
   exact this
  have hbp:Bts W7 (some ⟨b,o+255*j,none⟩) e pt:=by
   have:=zp1 (hI.txt.kept g7 (fun _ e=>by cases e)) j
   rw[← hkx,← he,← hpt] at this
   exact this
  have hcp:=zhr W7 p 1 255 255 (some ⟨b,o+255*j,none⟩) e pt hbp (fun i hi=>by
   have:=hB7.there 1 255 (by simp;omega) i (by omega)
   simpa using this)
  rw[hel,Nat.min_eq_left he255,show pt.take e=pt by rw[← hel];exact List.take_length] at hcp
  obtain ⟨W8,hW8⟩:∃ V,V=W7.setCells p 1 (pt.map bv):=⟨_,rfl⟩
  rw[← hW8] at hcp
  have hB8:Blk W8 p 5 ((secB x j).map bv):=by
   have:=Blk.setCells (pt.map bv) ((List.replicate e (0:UInt8)).map bv) (A:=[.int .u8 2]) hB7 (by simp[hel])
   rw[zl8,← hpt,hel,hW8]
   exact this
  have g8:W.grownBy W8 none:=by rw[hW8];exact za1 (Or.inl (Nat.le_of_eq hp.symm)) _ _ g7
  have hv8:Boxed W8 (w2.heap.size+1) 126 (.slice (some ⟨g0,0,none⟩) L.length k0):=hv.kept g8 (by simp)
  have hcl:=hv8.cell
  have hrow8:=h1.kept g8 (Or.inr (by simp[Value.ownBlock]))
  have hpw:w.heap.size≤p:=by rw[hp];exact hI.gb.size
  have hs8:w.heap.size≤W8.heap.size:=Nat.le_trans hI.gb.size g8.size
  obtain ⟨i0,hi,hz0,hz1,hz2⟩:=info_parts zen
  obtain ⟨m,hm⟩:∃ m,m=L.length:=⟨_,rfl⟩
  rw[← hm] at hcl hrow8 hv8
  have fin:∀ (v' : Value) (w10:World),w10.ownsRow w.heap.size 53 1 v' (m+1) (Vs++[.slice (some ⟨p,0,none⟩) 256 256])→(W8.alloc (.cells #[.slice (some ⟨p,0,none⟩) 256 256] 53)).grownBy w10 (some g0) →
    Boxed w10 (w2.heap.size+1) 126 (.slice (some ⟨g0,0,none⟩) m k0)∧(KeepsOthers W (w10.setCell ⟨w2.heap.size+1,0,none⟩ v')∧KpB W4.heap.size (W4.heap.size+1) W (w10.setCell ⟨w2.heap.size+1,0,none⟩ v')∧SeI w (w2.heap.size+1) W4.heap.size b o k c x (L++[secB x j]) (w10.setCell ⟨w2.heap.size+1,0,none⟩ v')):=by
   intro v' w10 ho10 g10
   have hLp:0<L.length:=by omega
   obtain ⟨q,d,hq,hq1,hq2,hq3⟩:=h2 0 L[0] (List.getElem?_eq_getElem hLp)
   have hg00:W.cell? ⟨g0,0,none⟩=some (Value.slice (some ⟨q,0,none⟩) 256 d):=by
    have:=h1.cells (g:=g0) rfl 0 _ hq
    rw[Addr.add_lit] at this
    exact this
   have hg0l:=h1.lt g0 rfl
   have n1:w2.heap.size+1≠g0:=fun e=>hv.not_row (by decide) h1 (by rw[e];rfl)
   have n2:W4.heap.size≠g0:=fun e=>by
    have:=hI.cs
    rw[e,hg00] at this
    injection this with this
    injection this with e1 _ _
    injection e1 with e1
    injection e1 with e1 _ _
    omega
   have n3:W4.heap.size+1≠g0:=fun e=>by
    have:=hI.cn
    rw[e,hg00] at this
    cases this
   have fr10:Fr W w10 [g0]:=(Fr.none (zaf g8 _) [g0]).then g10 (fun y e=>by cases e;exact Or.inl (by simp))
   have fr11:Fr W (w10.setCell ⟨w2.heap.size+1,0,none⟩ v') [g0,w2.heap.size+1]:=(fr10.more (G:=[g0,w2.heap.size+1]) (fun y hy=>Or.inl (by simp at hy;simp[hy]))).then (zam (zac w10 (some (w2.heap.size+1))) _ _ (Or.inr rfl)) (fun y e=>by cases e;exact Or.inl (by simp))
   have bx10:Boxed w10 (w2.heap.size+1) 126 (.slice (some ⟨g0,0,none⟩) m k0):=by
    rw[hm]
    unfold Boxed
    rw[fr10.block _ hv.lt (by simpa using n1)]
    exact hv
   have hwl:w2.heap.size+1<W.heap.size:=hv.lt
   have hbs:W4.heap.size<W.heap.size:=World.block_lt_of_cell? W _ hI.cs
   have hbn:W4.heap.size+1<W.heap.size:=World.block_lt_of_cell? W _ hI.cn
   have p1:p≠g0:=by have:=hg0l.2;omega
   have p2:p≠w2.heap.size+1:=by omega
   have b8:Bts W8 (some ⟨p,0,none⟩) 256 (secB x j):=by
    have:=zcn (zan hB8) (by rw[zcx];unfold maxLen;decide)
    rwa [zcx] at this
   have b11:Bts (w10.setCell ⟨w2.heap.size+1,0,none⟩ v') (some ⟨p,0,none⟩) 256 (secB x j) :=
    ((b8.kept (zaf (zac W8 none) _) (fun _ e=>by cases e)).kept g10 (fun y e=>by cases e;intro ad e2;cases e2;exact p1)).kept (zam (zac w10 (some (w2.heap.size+1))) _ _ (Or.inr rfl)) (fun y e=>by cases e;intro ad e2;cases e2;exact p2)
   have hrow11:(w10.setCell ⟨w2.heap.size+1,0,none⟩ v').ownsRow w.heap.size 53 1 v' (L.length+1) (Vs++[.slice (some ⟨p,0,none⟩) 256 256]):=by
    rw[← hm]
    exact ho10.kept (zam (zac w10 (some (w2.heap.size+1))) _ _ (Or.inr rfl)) (by
     have:=bx10.not_row (by decide) ho10
     cases hvo:v'.ownBlock with
     | none=>exact Or.inl rfl
     | some y=>exact Or.inr (fun e=>this (by rw[hvo,← e])))
   refine ⟨bx10,⟨fr11.size,fun i ob hi hc=>(fr11.block i (Array.getElem?_eq_some_iff.1 hi).1 (fun hm2 => ?_)).trans hi⟩,⟨fun i=>World.cell?_of_block (fr11.block _ (by omega) (by simp;exact ⟨n2,by omega⟩)),fun i=>World.cell?_of_block (fr11.block _ (by omega) (by simp;exact ⟨n3,by omega⟩))⟩,?_⟩
   ·simp only[List.mem_cons,List.not_mem_nil,or_false] at hm2
    rcases hm2 with rfl | rfl
    ·rcases h1.2 with ⟨h5,_⟩ | ⟨g',cap',cur,h5,_,hh,_⟩
     ·cases h5
     ·injection h5 with h5
      injection h5 with h5
      injection h5 with h5
      subst h5
      rw[hh] at hi;cases hi;simp[Obj.isCells] at hc
    ·rw[show W.heap[w2.heap.size+1]? = _ from hv] at hi;cases hi;simp[Obj.isCells] at hc
   ·refine ⟨⟨v',bx10.set v',zoc (B:=w2.heap.size+1) h1 h2 hLp hv.cell fr11 hrow11 hpw b11 (zcx x j)⟩,fr11.bts0 hI.txt (fun ad e _ hm2 => ?_),fr11.cell hI.cs (by simp;exact ⟨n2,by omega⟩),fr11.cell hI.cn (by simp;exact ⟨n3,by omega⟩),((Fr.none hI.gb []).trans fr11 (fun y hy=>Or.inr ?_)).gb (fun y hy=>by cases hy)⟩
    ·cases e
     simp only[List.mem_cons,List.not_mem_nil,or_false] at hm2
     rcases hm2 with h6 | h6
     ·have:b=g0:=h6
      omega
     ·have:b=w2.heap.size+1:=h6
      omega
    ·simp only[List.mem_cons,List.not_mem_nil,or_false] at hy
     rcases hy with rfl | rfl
     ·exact hg0l.1
     ·omega
  obtain ⟨HF,HW7,HLN,HM8⟩:=zh4 fin hW7 hLn hrow8
  have HPV:=hide (show prV b o k j = .slice (some ⟨b,o+255*j,none⟩) e e by unfold prV;rw[he])
  have hpv:=uh HPV
  rw[hpv]
  have HS8:=hide hs8
  have HMB:=hide (show m≤20000000 by rw[hm];exact hLb)
  clear hkx hW4 s4 s5 hgs hSw hf hS0l hS0 hW5 hLd hLn hLl hLb hpt he hel he255 hB6 g6 hp hmk hW7 g7 hB7 hbp hW8 hB8 g8 hv8 hrow8 hpw hs8 hm fin hjk h1 h2 hv hI hpv hi hz0 hz1 hz2
  gi_wp2_with (first
   | (rw[← uh HW7])
   | (gi_at_builtin;obtain ⟨i0,hi,hz0,hz1,hz2⟩:=info_parts zen;refine wpListIn_append_own _ rfl _ _ 126 rfl w.heap.size 53 i0 (.slice none 0 0) 1 24 Tryz.underlying126 hi hz0 hz1 hz2 rfl (by decide) _ _ _ rfl ((uh HM8).alloc _) ⟨W8.heap.size,0,none⟩ 1 1 [.slice (some ⟨p,0,none⟩) 256 256] rfl rfl (cell_one_new _ _ _) (by simp[Value.oneCell']) (by have:=uh HMB;unfold maxLen;omega) (by have:=uh HMB;omega) (by have:=uh HS8;simp;omega) ?_;clear i0 hi hz0 hz1 hz2;intro v9 w10 hown10 hgrow10 _;obtain ⟨g9,k9,hv9⟩:=zct hown10 (by omega);subst hv9;obtain ⟨hbx10,hfi⟩:=uh HF _ _ hown10 hgrow10;have hc1:=hbx10.cell;have hf1:=hbx10.frozen;have HFI:=hide hfi;clear hown10 hgrow10 hfi hbx10))
  have h3:=uh HFI
  rw[← uh HLN] at h3
  exact h3
end Go.Proofs.YtoilcpdhhlcidaaGreatDoor
