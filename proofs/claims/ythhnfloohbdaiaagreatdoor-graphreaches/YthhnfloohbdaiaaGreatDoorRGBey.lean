/- Lemmas. -/
import Derived.Test.YthhnfloohbdaiaaGreatDoorGBuild
import Derived.Maps.AppendAt
import Derived.Deep.LoopGhost
namespace Go.Proofs.YthhnfloohbdaiaaGreatDoor
open Go.RowKit
set_option maxRecDepth 100000
structure BuiltS (w w' : World) (sb mb:Nat) (v1 v2 vi:Value) (S:List ObE) (I:List (List UInt8)):Prop where
 set:SetAt w w' sb mb S
 doc:RSet w' w.heap.size v1 v2 S
 own:w'.ownsRow w.heap.size 33 32 vi I.length (I.flatMap (·.map bv))
 wid:∀ x∈I,x.length=32
 few:I.length≤24
 sew:S.length≤24
 g:w.grownBy w' none
def zzj (w w' : World) (e:Ending):Prop:=∃ (sb mb:Nat) (a1 a2 ia:Option Addr) (n1 n2 c1 c2 ic:Nat) (S:List ObE) (I:List (List UInt8)),e = .returned (.tuple #[.pointer (some ⟨sb,0,none⟩),.agg #[.slice a1 n1 c1,.slice a2 n2 c2],.slice ia I.length ic])∧BuiltS w w' sb mb (.slice a1 n1 c1) (.slice a2 n2 c2) (.slice ia I.length ic) S I
structure Gk (w wr:World) (sb mb rb:Nat) (v1 v2:Value) (S:List ObE) (V:List (Value × List (List UInt8))):Prop where
 s:SetAt w wr sb mb S
 d:RSet wr w.heap.size v1 v2 S
 b:Blk wr rb 28 [v1,v2]
 rows:∀ p∈V,Nam wr w.heap.size p.1 p.2
 g:w.grownBy wr none
theorem Gk.none {w wr a:World} {sb mb rb:Nat} {v1 v2:Value} {S:List ObE} {V:List (Value × List (List UInt8))} (k:Gk w wr sb mb rb v1 v2 S V) (g:wr.grownBy a Option.none):Gk w a sb mb rb v1 v2 S V :=
 ⟨k.s.none g,k.d.kept g,k.b.kept g (by simp),fun p hp=>(k.rows p hp).none g,tn k.g g⟩
theorem Gk.add {w wr:World} {sb mb rb:Nat} {v1 v2:Value} {S:List ObE} {V:List (Value × List (List UInt8))} {v:Value} {X:List (List UInt8)} (k:Gk w wr sb mb rb v1 v2 S V) (n:Nam wr w.heap.size v X):Gk w wr sb mb rb v1 v2 S ((v,X)::V) :=
 ⟨k.s,k.d,k.b,fun p hp=>by rcases List.mem_cons.1 hp with rfl | hp;exact n;exact k.rows p hp,k.g⟩
theorem BuiltS.gk {w w1 W2:World} {sb mb:Nat} {v1 v2 vi:Value} {S:List ObE} {I:List (List UInt8)} (h:BuiltS w w1 sb mb v1 v2 vi S I) (hB:Blk W2 w1.heap.size 28 [v1,v2]) (g:w1.grownBy W2 Option.none):Gk w W2 sb mb w1.heap.size v1 v2 S [(vi,I)] :=
 ⟨h.set.none g,h.doc.kept g,hB,fun p hp=>by rw[List.mem_singleton.1 hp];exact (⟨h.own,h.wid⟩:Nam w1 w.heap.size vi I).none g,tn h.g g⟩
structure Rnd (nx:List UInt8→List (List UInt8)) (R out now next:List (List UInt8)):Prop where
 met:∀ x∈out,Rch nx R x
 nows:∀ x∈now,Rch nx R x
 nexts:∀ x∈next,Rch nx R x
 roots:∀ x∈R,x∈out∨x∈now∨x∈next
 named:∀ x∈out,∀ y∈nx x,y∈out∨y∈now∨y∈next
theorem Rnd.start (nx:List UInt8→List (List UInt8)) (R:List (List UInt8)):Rnd nx R [] R [] :=
 ⟨(fun _ h=>by cases h),fun _ h=>Rch.root h,(fun _ h=>by cases h),fun _ h=>Or.inr (Or.inl h),(fun _ h=>by cases h)⟩
theorem Rnd.skip {nx:List UInt8→List (List UInt8)} {R out now next:List (List UInt8)} {x:List UInt8} (h:Rnd nx R out (x::now) next) (hx:x∈out):Rnd nx R out now next:=by
 have key:∀ y,(y∈out∨y∈x::now∨y∈next)→y∈out∨y∈now∨y∈next:=by
  rintro y (h1 | h1 | h1)
  ·exact Or.inl h1
  ·rcases List.mem_cons.1 h1 with rfl | h1
   ·exact Or.inl hx
   ·exact Or.inr (Or.inl h1)
  ·exact Or.inr (Or.inr h1)
 exact ⟨h.met,fun y hy=>h.nows y (List.mem_cons_of_mem _ hy),h.nexts,fun y hy=>key y (h.roots y hy),fun a ha y hy=>key y (h.named a ha y hy)⟩
theorem Rnd.take {nx:List UInt8→List (List UInt8)} {R out now next out' next' : List (List UInt8)} {x:List UInt8} (h:Rnd nx R out (x::now) next) (ho:∀ y,y∈out'↔y=x∨y∈out) (hn:next'=next++nx x):Rnd nx R out' now next':=by
 have hx:Rch nx R x:=h.nows x (by simp)
 have key:∀ y,(y∈out∨y∈x::now∨y∈next)→y∈out'∨y∈now∨y∈next':=by
  rintro y (h1 | h1 | h1)
  ·exact Or.inl ((ho y).2 (Or.inr h1))
  ·rcases List.mem_cons.1 h1 with rfl | h1
   ·exact Or.inl ((ho y).2 (Or.inl rfl))
   ·exact Or.inr (Or.inl h1)
  ·exact Or.inr (Or.inr (by rw[hn];exact List.mem_append_left _ h1))
 refine ⟨fun y hy => ?_,fun y hy=>h.nows y (List.mem_cons_of_mem _ hy),fun y hy => ?_,fun y hy=>key y (h.roots y hy),fun a ha y hy => ?_⟩
 ·rcases (ho y).1 hy with rfl | hy
  ·exact hx
  ·exact h.met y hy
 ·rw[hn] at hy
  rcases List.mem_append.1 hy with hy | hy
  ·exact h.nexts y hy
  ·exact Rch.next hx hy
 ·rcases (ho a).1 ha with rfl | ha
  ·exact Or.inr (Or.inr (by rw[hn];exact List.mem_append_right _ hy))
  ·exact key y (h.named a ha y hy)
theorem Rnd.turn {nx:List UInt8→List (List UInt8)} {R out next:List (List UInt8)} (h:Rnd nx R out [] next):Rnd nx R out next []:=by
 have key:∀ y,(y∈out∨y∈([]:List (List UInt8))∨y∈next)→y∈out∨y∈next∨y∈([]:List (List UInt8)):=by
  rintro y (h1 | h1 | h1)
  ·exact Or.inl h1
  ·cases h1
  ·exact Or.inr (Or.inl h1)
 exact ⟨h.met,h.nexts,(fun _ h=>by cases h),fun y hy=>key y (h.roots y hy),fun a ha y hy=>key y (h.named a ha y hy)⟩
theorem Rnd.done {nx:List UInt8→List (List UInt8)} {R out:List (List UInt8)} (h:Rnd nx R out [] []) (x:List UInt8):x∈out↔Rch nx R x:=by
 refine ⟨h.met x,fun hx => ?_⟩
 induction hx with
 | root hr =>
  rcases h.roots _ hr with h1 | h1 | h1
  ·exact h1
  ·cases h1
  ·cases h1
 | next _ hy ih =>
  rcases h.named _ ih _ hy with h1 | h1 | h1
  ·exact h1
  ·cases h1
  ·cases h1
theorem zch {w:World} {ops:Array Oper} {rest:List Oper} {o:Oper} {a:Act} {Q:Exit→Act→World→Prop} (hgd:o.guard=none) (s x:Operand)
  (ho:o.op = .call { callee := .builtin .append,args := #[s,x],argTypes := #[25,25] })
  (base:Nat) (v:Value) (L M:List (List UInt8)) (hs:a.eval s=v) (hown:Stg w base v L) (xo:Option Addr) (m c:Nat) (hx:a.eval x = .slice xo m c) (hm:m=M.length) (hM:Rws w 1 stR xo c M) (hn:L.length+M.length≤1000000000) (hbase:base≤w.heap.size)
  (h:∀ v' w',Stg w' base v' (L++M)→w.grownBy w' v.ownBlock→(v'.ownBlock=v.ownBlock∨v'.ownBlock=some w.heap.size)→wpList Tryz.prog ops Q rest (a.put o.dst v') w'):wpList Tryz.prog ops Q (o::rest) a w:=by
 obtain ⟨i0,hi,hz0,hz1,hz2⟩:=info_parts zgb
 subst hm
 cases xo with
 | none =>
  obtain ⟨h1,h2⟩:=hM.zip rfl
  have h0:M=[]:=List.eq_nil_of_length_eq_zero h1
  subst h0
  subst h2
  exact wpList_append_own_none hgd s x 25 ho base 9 i0 1 Tryz.underlying25 hi v L.length (L.map stv) hs hown hx (h v w (by simpa using hown) (zaa _ _) (Or.inl rfl))
 | some ad =>
  have hsp:=hM.spot ad rfl
  have hr:=hM.row ad rfl
  obtain ⟨b,p,sp⟩:=ad
  simp only at hsp hr
  subst hsp
  refine wpList_append_own_at w hgd s x 25 ho base 9 i0 (.string ⟨#[]⟩) 1 16 Tryz.underlying25 hi hz0 hz1 hz2 rfl (by decide) v L.length (L.map stv) hs hown ⟨b,p,none⟩ M.length c (M.map stv) hx (by simp) ?_ (zro M) (by unfold maxLen;omega) (by omega) hbase (fun v' w' q1 q2 _ q3=>h v' w' (by unfold Stg;simpa using q1) q2 q3)
  intro j u hu
  obtain ⟨hj,hu2⟩:=List.getElem?_eq_some_iff.1 hu
  have hjl:j<M.length:=by simpa using hj
  have h9:=hr j hjl 0 (stv M[j]) rfl
  rw[Addr.add_lit]
  have e:u=stv M[j]:=by rw[← hu2];simp
  rw[e]
  simpa using h9
theorem zhk {S:List ObE} {R:List (List UInt8)} {x:List UInt8} (h:Rch (nxS S) R x):x∈zju (fun e=>za4 e.k e.d) S R:=by
 cases h with
 | root hm=>exact List.mem_append_left _ hm
 | next _ hy=>exact ztl S R _ _ hy
structure RchI (S:List ObE) (R O N X:List (List UInt8)) (P j:Nat):Prop where
 rnd:Rnd (nxS S) R O (N.drop j) X
 ris:Ris O
 more:P<O.length∨X=[]
 le:P≤O.length
 len:X.length≤33*O.length
theorem RchI.few {S:List ObE} {R O N X:List (List UInt8)} {P j:Nat} (h:RchI S R O N X P j):O.length≤(zju (fun e=>za4 e.k e.d) S R).length :=
 zbc h.ris.nodup (fun x hx=>zhk (h.rnd.met x hx))
theorem RchI.skip {S:List ObE} {R O N X:List (List UInt8)} {P j:Nat} (h:RchI S R O N X P j) (hj:j<N.length) (hx:N[j]∈O):RchI S R O N X P (j+1) :=
 ⟨by have:=h.rnd;rw[List.drop_eq_getElem_cons hj] at this;exact this.skip hx,h.ris,h.more,h.le,h.len⟩
theorem RchI.take {S:List ObE} {R O N X:List (List UInt8)} {P j k:Nat} (h:RchI S R O N X P j) (hj:j<N.length) (hx:N[j]∉O) (h1:∀ z∈O.take k,za8 z N[j]=true) (h2:∀ y,O[k]? = some y→za8 y N[j]=false):RchI S R (O.take k++N[j]::O.drop k) N (X++nxS S N[j]) P (j+1):=by
 have hl:(O.take k++N[j]::O.drop k).length=O.length+1:=by
  have:=congrArg List.length (List.take_append_drop k O)
  simp only[List.length_append,List.length_cons] at this ⊢
  omega
 refine ⟨?_,zwd h.ris hx h1 h2,Or.inl (by rw[hl];have:=h.le;omega),by rw[hl];have:=h.le;omega,?_⟩
 ·have:=h.rnd
  rw[List.drop_eq_getElem_cons hj] at this
  exact this.take (fun y=>zwe) rfl
 ·rw[hl,List.length_append]
  have:=h.len
  have:=(zib S N[j]).1
  omega
theorem zzw {S:List ObE} (hS:SetS S) {x:List UInt8} {k:Nat} (hk:(idsS S)[k]? = some x) (hl:k<S.length):nxS S x=za4 S[k].k S[k].d:=by
 have hx:S[k].id=x:=by
  obtain ⟨h1,h2⟩:=List.getElem?_eq_some_iff.1 hk
  rw[← h2];simp[idsS]
 unfold nxS
 rw[← hx,zgi hS.ris.nodup (List.getElem_mem hl)]
 rfl
theorem zzx {S:List ObE} {x:List UInt8} (h:x∉idsS S):nxS S x=[]:=by
 unfold nxS
 rw[zk3 h];rfl
set_option maxHeartbeats 8000000 in
theorem zgx (w:World) (base:Nat) (v1 v2:Value) (S:List ObE) (h:RSet w base v1 v2 S) (hS:SetS S) (ao:Option Addr) (ac:Nat) (R:List (List UInt8)) (hA:Rws w 1 stR ao ac R) (hRl:R.length≤50000) :
  Calls Tryz.prog 48 #[.agg #[v1,v2],.slice ao R.length ac] w fun e w'=>∃ (v:Value) (T:List (List UInt8)),e = .returned v∧Stg w' w.heap.size v T∧Ris T∧(∀ x,x∈T↔Rch (nxS S) R x)∧w.grownBy w' none:=by
 obtain ⟨a1,c1,e1,hStl⟩:=h.ids.open
 obtain ⟨a2,c2,e2,hO,_⟩:=h.obs.rws
 obtain ⟨n,hn⟩:∃ n,n=S.length:=⟨_,rfl⟩
 have hni:n=(idsS S).length:=by rw[hn];simp[idsS]
 rw[← hni] at e1
 rw[← hn] at e2
 subst e1 e2
 obtain ⟨rn,hrn⟩:∃ n,n=R.length:=⟨_,rfl⟩
 obtain ⟨U,hU⟩:∃ U,U=(zju (fun e=>za4 e.k e.d) S R).length:=⟨_,rfl⟩
 have hU9:U≤90000:=by rw[hU];exact zfw _ (fun e=>(zde e.k e.d)) S hS R hRl
 obtain ⟨W1,hW1,hB1,g1⟩:=zae w 28 [.slice a1 n c1,.slice a2 n c2]
 have cpl:∀ V x,W1.grownBy V none→Calls Tryz.prog 15 #[.agg #[.slice a1 n c1,.slice a2 n c2],.string (str x)] V fun e w'=>∃ r:Int,e = .returned (.int .i64 r)∧V.grownBy w' none∧((r = -1∧x∉idsS S)∨∃ j:Nat,r=(j:Int)∧(idsS S)[j]? = some x∧x∉(idsS S).take j):=fun V x gV=>by
  have:=zj4 V base a1 c1 (idsS S) (hStl.kept (tn g1 gV)) a2 n c2 x (by rw[← hni,hn];have:=hS.few;omega)
  rw[← hni] at this
  exact this
 obtain ⟨HW1,HB1,HG1,HPL⟩:=zh4 hW1 hB1 g1 cpl
 have HOO:=hide (hO.kept g1)
 obtain ⟨HN,HNI,HSS,HUU,HRN⟩:=zh5 hn hni hS hU hrn
 have HA1:=hide (hA.kept g1)
 have hn9:n≤1000:=by rw[hn];exact hS.few
 rw[← hrn]
 rw[← hrn] at hRl
 clear hW1 hB1 g1 cpl hO hn hni hS hU hrn hA hStl h
 go_enter Tryz.func48,Tryz.ntmps48
 go_wp2_with (rw[← uh HW1])
 go_loopg [5,6,7,8,9] (2*U+1) (fun gk v5 v6 _x7 _x8 _x9 wr=>∃ (O N:List (List UInt8)) (na:Option Addr) (nn nc:Nat),v6 = .slice na nn nc∧nn=N.length∧nn≤4000000∧Rws wr 1 stR na nc N∧Stg wr W1.heap.size v5 O∧Ris O∧Rnd (nxS S) R O N []∧2*(U - O.length)+(if nn=0 then 0 else 1)≤gk∧O.length≤U∧W1.grownBy wr none)
 case atStart=>exact ⟨[],R,ao,rn,ac,rfl,uh HRN,by omega,uh HA1,Stg.nil _ _,List.Pairwise.nil,Rnd.start _ _,(by simp;split <;> omega),Nat.zero_le _,zaa _ _⟩
 case round =>
  obtain ⟨O,N,na,nn,nc,rfl,hnn,hnn9,hNw,hO5,hOr,hRd,hgk,hOU,hg⟩:=hrel
  obtain ⟨WR,hWR⟩:∃ V,V=wr:=⟨_,rfl⟩
  subst hWR
  by_cases h0:nn=0
  ·subst h0
   have hN0:N=[]:=List.eq_nil_of_length_eq_zero hnn.symm
   subst hN0
   have HFIN:=hide hRd.done
   have HO5:=hide hO5
   clear hRd hgk hnn hO5
   go_wp2
   go_ret
   exact ⟨_,O,rfl,zax (uh HO5) (uh HG1).size,hOr,uh HFIN,tn (uh HG1) hg⟩
  ·have h0i:(0:Int)<(nn:Int):=by omega
   have h0n:0<nn:=by omega
   have HRI:Hid (RchI S R O N [] O.length 0):=⟨by simpa using hRd,hOr,Or.inr rfl,Nat.le_refl _,Nat.zero_le _⟩
   obtain ⟨HNW,HNN,HG,HO5⟩:=zh4 hNw hnn hg hO5
   clear hRd hOr hNw hnn hg hO5
   go_wp2_with fail
   go_loopw [5,7,8,9] (fun v5 v7 i _x9 wr=>∃ (j:Nat) (O' X:List (List UInt8)),i = .int .i64 j∧j≤nn∧Hid (RchI S R O' N X O.length j)∧Stg wr W1.heap.size v5 O'∧Stg wr WR.heap.size v7 X∧(v5.ownBlock=none∨v5.ownBlock≠v7.ownBlock)∧WR.grownBy wr none) (fun _ _ i _ _=>nn - (intOf i).toNat)
   case atStart=>exact ⟨0,O,[],rfl,Nat.zero_le _,HRI,uh HO5,Stg.nil _ _,(by by_cases e:u5.ownBlock=none;exact Or.inl e;exact Or.inr e),zaa _ _⟩
   case round =>
    obtain ⟨j,O',X,rfl,hj,HI,hO',hX,hap,hgx⟩:=hrel
    have hG:=tn (uh HG) hgx
    have hOn:O'.length≤90000:=Nat.le_trans (uh HI).few (by rw[← uh HUU];exact hU9)
    by_cases hlt:j<nn
    ·have hjN:j<N.length:=by rw[← uh HNN];exact hlt
     obtain ⟨b,o,hna,hcj⟩:=((uh HNW).kept hgx).txt j hjN
     obtain ⟨oa,oc,e5,hStl⟩:=hO'.open
     obtain ⟨oa9,oc9,e9,hOr9,_⟩:=hO'.rws
     have ch:=zn8 wr W1.heap.size oa oc O' hStl N[j] (by omega)
     have hskip:=(uh HI).skip hjN
     have htake:=fun (k:Nat)=>(uh HI).take (k:=k) hjN
     obtain ⟨x,hx⟩:∃ x,x=N[j]:=⟨_,rfl⟩
     obtain ⟨on,hon⟩:∃ n,n=O'.length:=⟨_,rfl⟩
     rw[← hon] at e5 ch
     rw[← hx] at hcj ch hskip htake
     obtain ⟨TX,hTX⟩:∃ T,T=str x:=⟨_,rfl⟩
     rw[← hTX] at hcj ch
     have hee:oa9=oa∧oc9=oc:=by rw[e5] at e9;injection e9 with q1 q2 q3;exact ⟨q1.symm,q3.symm⟩
     obtain ⟨rfl,rfl⟩:=hee
     clear e9
     have hjw:IntKind.i64.wrap ((j:Int)+1)=(j:Int)+1:=by rw[IntKind.wrap_i64];omega
     obtain ⟨HTX,HON,HSK,HTK,HX,HOR⟩:=zh6 hTX hon hskip htake hX hOr9
     obtain ⟨HAP,HGX,HGG⟩:=zh3 hap hgx hG
     have HO2:=hide hO'
     subst e5
     clear hskip htake hX hOr9 hap hgx hG hO' hTX hon hx hjN hStl
     by_cases hin:x∈O'
     ·have hct:O'.contains x=true:=by simpa using hin
      rw[hct] at ch
      clear hct
      subst hna
      go_wp2_with (go_at_call 51;refine ch.mono ?_;rintro e w2 ⟨rfl,g2⟩;clear ch)
      go_roundw
      case rel=>exact ⟨j+1,O',X,by go_num,by omega,uh HSK hin,(uh HO2).kept g2,(uh HX).kept g2,uh HAP,tn (uh HGX) g2⟩
      case measure=>simp[intOf];omega
     ·have hct:O'.contains x=false:=by simpa using hin
      rw[hct] at ch
      have HIN:=hide hin
      clear hct hin
      subst hna
      go_upto_region 10 with (first
       | (go_at_call 51;refine ch.mono ?_;rintro e w2 ⟨rfl,g2⟩;clear ch;have hc9:=g2.cell hcj (by simp);have cw:=zqw w2 oa9 oc9 O' ((uh HOR).kept g2) x (by omega);rw[← uh HON,← uh HTX] at cw;have HG2:=hide (tn (uh HGX) g2);have HX2:=hide ((uh HX).kept g2);have HL2:Hid (wr.heap.size≤w2.heap.size):=g2.size;clear g2)
       | (go_at_call 79;refine cw.mono ?_;rintro e w3 ⟨v3,k,rfl,hO3,hl1,hl2,g3⟩;clear cw;have hc10:=g3.cell hc9 (by simp);have HO3:=hide hO3;have HT3:=hide (uh HTK k (uh HIN) hl1 hl2);have HG3:=hide (tn (uh HG2) g3);have HX3:=hide ((uh HX2).kept g3);have HL3:=hide g3.size;clear hO3 hl1 hl2 g3))
      have hap3:v3.ownBlock=none∨v3.ownBlock≠u7.ownBlock:=by
       by_cases e:v3.ownBlock=none
       ·exact Or.inl e
       ·refine Or.inr fun e2 => ?_
        obtain ⟨q,hq⟩:=Option.ne_none_iff_exists'.1 e
        have z1:=(World.ownsRow.lt (uh HO3) q hq).1
        have z2:=(World.ownsRow.lt (uh HX) q (by rw[← e2];exact hq)).2
        have:=uh HL2
        omega
      have hO3:=zax (b2:=W1.heap.size) (uh HO3) (Nat.le_trans (tn (uh HG) (uh HG2)).size (Nat.le_refl _))
      have hrs:w3.rangeAt w.heap.size 0 [Value.slice a1 n c1,Value.slice a2 n c2]:=zad (zak (uh HB1)) (tn (uh HG) (uh HG3)) (by simp)
      obtain ⟨HA3,HO4⟩:=zh2 hap3 hO3
      have h0' : w3.grownBy w3.drew none:=zaj (zaa _ _)
      have hcp:=uh HPL w3.drew x (tn (tn (uh HG) (uh HG3)) h0')
      rw[← uh HTX] at hcp
      clear hap3 hO3 hcj hc9
      refine wp_region_noPanic ?_
      refine wp_region_held_drew (S:=fun V=>w3.grownBy V none) (by kernel_rfl) h0' (fun _ => ?_)
      refine tz 0 32 (.load 28 (.tmp 2)) (.agg [Value.slice a1 n c1,Value.slice a2 n c2].toArray) h0' ?_ (y:=(yieldsIf_load_mid (by rfl) _ _ rfl _ _ rfl [Value.slice a1 n c1,Value.slice a2 n c2] _ (fun V hV=>zad hrs hV (by simp)) Tryz.underlying28 rfl zay))
      refine tq 1 33 (.move (.tmp 6)) (.slice (some ⟨b,o,none⟩) nn nc) h0' ?_
      refine tq 2 34 (.move (.tmp 8)) (.int .i64 (j:Int)) h0' ?_
      refine tq 3 35 (.indexAddr 25 (.tmp 33) (.tmp 34)) (.pointer (some ⟨b,o+j,none⟩)) h0' ?_
      (try simp only[pq])
      refine tz 4 36 (.load 9 (.tmp 35)) (.string TX) h0' ?_ (y:=(Or.inl ⟨by rfl,fun V hV=>by (have hv1:=hV.cell hc10 (by simp);go_simp)⟩))
      (try simp only[pq])
      refine rd 5 (some 37) (.call { callee := .value (.func 15),args := #[(.tmp 32),(.tmp 36)],argTypes := #[28,9] }) (fun K9 hK9 => ?_)
      go_simp
      go_at_call 15
      refine (hcp).mono ?_
      rintro e w4 ⟨r,rfl,g4a,hr⟩
      go_wp2_with fail
      refine hK9.out _ _ (tn h0' g4a) (fun _ => ?_)
      clear hK9 K9
      refine tq 6 9 (.assign (.tmp 37)) (.int .i64 r) (tn h0' g4a) ?_
      (try simp only[pq])
      refine wpAnyH_done (by kernel_rfl) ?_ _
      refine NoPanic.normal ?_
      have hG4:=tn (uh HG3) (tn h0' g4a)
      have hX4:=(uh HX3).kept (tn h0' g4a)
      have hO4:=World.ownsRow.kept (uh HO4) (tn h0' g4a) (by cases v3.ownBlock <;> simp)
      obtain ⟨HG4,HX4,HO5b⟩:=zh3 hG4 hX4 hO4
      clear hG4 hX4 hO4 hc10 hrs
      rcases hr with ⟨hr1,hno⟩ | ⟨k,hr1,hk,_⟩
      ·subst hr1
       have HT4:=uh HT3
       rw[zzx hno,List.append_nil] at HT4
       have HT5:=hide HT4
       clear hno HT4
       go_wp2
       go_roundw
       case rel=>exact ⟨j+1,_,X,by go_num,by omega,uh HT5,uh HO5b,uh HX4,uh HA3,uh HG4⟩
       case measure=>simp[intOf];omega
      ·subst hr1
       have hkS:k<S.length:=by have:=(List.getElem?_eq_some_iff.1 hk).1;simpa[idsS] using this
       obtain ⟨sb,so,hsa,hrk⟩:=((uh HOO).kept (tn (uh HG) (uh HG4))).at k hkS
       have hnx:=zzw (uh HSS) hk hkS
       have hd:S[k].d.length≤100000:=by have:=zfu ((uh HSS).ok _ (List.getElem_mem hkS));omega
       have cl:=zqf w4 S[k].k S[k].d hd
       obtain ⟨F,hF⟩:∃ F,F=S[k]:=⟨_,rfl⟩
       rw[← hF] at hrk hnx cl
       obtain ⟨FC,hFC⟩:∃ C,C=roC F:=⟨_,rfl⟩
       rw[← hFC] at hrk
       rw[show Value.agg #[.int .i64 F.k,.string (str F.d)] = .agg FC.toArray by rw[hFC];rfl] at cl
       have hiF:(Tryz.prog.info? 47).map (·.size)=some FC.length:=by rw[hFC];exact zdj
       have hcO:w4.cell? ⟨w.heap.size,1,none⟩=some (.slice a2 n c2):=by rw[((uh HB1).kept (tn (uh HG) (uh HG4)) (by simp)).cell];rfl
       have hkn:k<n:=by rw[uh HN];exact hkS
       have hk0:(0:Int)≤(k:Int):=by omega
       obtain ⟨HNX,HRK⟩:=zh2 hnx hrk
       clear hk hkS hnx hd hF hFC hrk
       subst hsa
       go_wp2_with (first
        | (refine wpList_load_mid rfl 47 _ rfl sb (so+k*2) rfl FC _ (uh HRK) Tryz.underlying47 rfl hiF ?_)
        | (go_at_call 80;refine cl.mono ?_;rintro e w5 ⟨v5',rfl,hL5,g5⟩;clear cl;obtain ⟨la,lc,e6,hLr,_⟩:=Stg.rws hL5;obtain ⟨ln,hln⟩:∃ n,n=(za4 F.k F.d).length:=⟨_,rfl⟩;rw[← hln] at e6;subst e6;have HLR:=hide hLr;have HLN:=hide hln;have HX5:=hide ((uh HX4).kept g5);have HO5c:=hide (World.ownsRow.kept (uh HO5b) g5 (by cases v3.ownBlock <;> simp));have HG5:=hide (tn (uh HG4) g5);have HL5:Hid (w3.heap.size≤w5.heap.size):=Nat.le_trans h0'.size (Nat.le_trans g4a.size g5.size);clear hL5 hLr hln g5)
        | (refine zch rfl _ _ rfl WR.heap.size u7 X (za4 F.k F.d) rfl (uh HX5) la ln lc rfl (uh HLN) (uh HLR) (by have q1:=(uh HI).len;have q2:=zde F.k F.d;omega) (uh HG5).size ?_;intro v8 w8 hX8 g8 hat;have HX8:=hide hX8;have HO8:=hide (World.ownsRow.kept (uh HO5c) g8 (uh HA3));have HG8:=hide (zac (uh HG5) g8 (fun z e=>Or.inl ((World.ownsRow.lt (uh HX5)) z e).1));have HAT:=hide hat;clear hX8 g8 hat))
       have hap8:v3.ownBlock=none∨v3.ownBlock≠v8.ownBlock:=by
        rcases uh HAT with e | e
        ·rw[e];exact uh HA3
        ·by_cases e3:v3.ownBlock=none
         ·exact Or.inl e3
         ·refine Or.inr fun e2 => ?_
          have z1:=(World.ownsRow.lt (uh HO3) w5.heap.size (by rw[e2];exact e)).2
          have:=uh HL5
          omega
       have HT8:=uh HT3
       rw[uh HNX] at HT8
       go_roundw
       case rel=>exact ⟨j+1,_,X++za4 F.k F.d,by go_num,by omega,HT8,uh HO8,uh HX8,hap8,uh HG8⟩
       case measure=>simp[intOf];omega
    ·have hjn:j=N.length:=by rw[← uh HNN];omega
     have hI:=uh HI
     have hrd:Rnd (nxS S) R O' [] X:=by have:=hI.rnd;rwa [hjn,List.drop_length] at this
     obtain ⟨xa,xc,e7,hXr,_⟩:=hX.rws
     obtain ⟨xn,hxn⟩:∃ n,n=X.length:=⟨_,rfl⟩
     rw[← hxn] at e7
     subst e7
     have hx9:xn≤4000000:=by rw[hxn];have:=hI.len;omega
     have hOU' : O'.length≤U:=by rw[uh HUU];exact hI.few
     have hms:2*(U - O'.length)+(if xn=0 then 0 else 1)<gk:=by
      rw[if_neg h0] at hgk
      rcases hI.more with q | q
      ·split <;> omega
      ·have:xn=0:=by rw[hxn,q];rfl
       rw[if_pos this]
       have:=hI.le
       omega
     have HMS:=hide hms
     have HRD:=hide hrd.turn
     have HRS:=hide hI.ris
     obtain ⟨HXR,HXN⟩:=zh2 hXr hxn
     have HO9:=hide hO'
     have HGF:=hide hG
     clear hjn hI hrd hXr hxn hms hX hO' hG hgx hap hgk
     go_wp2
     go_roundg (2*(U - O'.length)+(if xn=0 then 0 else 1))
     case measure=>exact uh HMS
     case rel=>exact ⟨O',X,xa,xn,xc,rfl,uh HXN,hx9,uh HXR,uh HO9,uh HRS,uh HRD,Nat.le_refl _,hOU',uh HGF⟩
theorem zzk {v8 v7 v7' : Value} {h:Nat} (hap:v7.ownBlock=none∨v7.ownBlock≠v8.ownBlock) (hat:v7'.ownBlock=v7.ownBlock∨v7'.ownBlock=some h) (hlt:∀ k,v8.ownBlock=some k→k<h):v7'.ownBlock=none∨v7'.ownBlock≠v8.ownBlock:=by
 rcases hat with e | e
 ·rw[e];exact hap
 ·refine Or.inr fun e2 => ?_
  have:=hlt h (by rw[← e2];exact e)
  omega
theorem zt5 {a b:Value} (h:a.ownBlock=none∨a.ownBlock≠b.ownBlock):b.ownBlock=none∨b.ownBlock≠a.ownBlock:=by
 by_cases e:b.ownBlock=none
 ·exact Or.inl e
 ·rcases h with h | h
  ·exact Or.inr (by rw[h];exact e)
  ·exact Or.inr fun e2=>h e2.symm
set_option maxHeartbeats 8000000 in
theorem zjn (w:World) (base:Nat) (v1 v2:Value) (S:List ObE) (h:RSet w base v1 v2 S) (hS:SetS S) (ao:Option Addr) (ac:Nat) (R:List (List UInt8)) (hA:Rws w 1 stR ao ac R) (hRl:R.length≤50000) :
  Calls Tryz.prog 23 #[.agg #[v1,v2],.slice ao R.length ac] w fun e w'=>∃ (v u:Value) (T M:List (List UInt8)),e = .returned (.tuple #[v,u])∧Ris T∧Ris M∧(∀ x,x∈T↔Rch (nxS S) R x∧hasS S x=true)∧(∀ x,x∈M↔Rch (nxS S) R x∧hasS S x=false)∧Stg w' w.heap.size v T∧Stg w' w.heap.size u M∧w.grownBy w' none:=by
 obtain ⟨a1,c1,e1,hStl⟩:=h.ids.open
 obtain ⟨a2,c2,e2,hO,_⟩:=h.obs.rws
 obtain ⟨n,hn⟩:∃ n,n=S.length:=⟨_,rfl⟩
 have hni:n=(idsS S).length:=by rw[hn];simp[idsS]
 rw[← hni] at e1
 rw[← hn] at e2
 subst e1 e2
 obtain ⟨rn,hrn⟩:∃ n,n=R.length:=⟨_,rfl⟩
 obtain ⟨W1,hW1,hB1,g1⟩:=zae w 28 [.slice a1 n c1,.slice a2 n c2]
 have cpl:∀ V x,w.grownBy V none→Calls Tryz.prog 15 #[.agg #[.slice a1 n c1,.slice a2 n c2],.string (str x)] V fun e w'=>∃ r:Int,e = .returned (.int .i64 r)∧V.grownBy w' none∧(hasS S x=decide (0≤r)):=fun V x gV=>by
  have:=zj4 V base a1 c1 (idsS S) (hStl.kept gV) a2 n c2 x (by rw[← hni,hn];have:=hS.few;omega)
  rw[← hni] at this
  refine this.mono ?_
  rintro e w' ⟨r,rfl,gr,hr⟩
  refine ⟨r,rfl,gr,?_⟩
  rcases hr with ⟨rfl,hno⟩ | ⟨j,rfl,hj,_⟩
  ·have:hasS S x=false:=by
    cases hh:hasS S x with
    | false=>rfl
    | true=>exact absurd ((zdz S x).1 hh) hno
   rw[this];rfl
  ·rw[(zdz S x).2 (List.mem_of_getElem? hj)]
   simp
 have cr:=zgx W1 base _ _ S (h.kept g1) hS ao ac R (hA.kept g1) hRl
 rw[← hrn] at cr ⊢
 have hr1:=zak hB1
 obtain ⟨HW1,HB1,HG1,HPL,HSS⟩:=zh5 hW1 hB1 g1 cpl hS
 clear hW1 hB1 g1 cpl hO hn hni hS hrn hA hStl h
 go_enter Tryz.func23,Tryz.ntmps23
 go_upto_region 4 with (first
  | (rw[← uh HW1])
  | (refine wpList_load_mid rfl 28 _ rfl w.heap.size 0 rfl [.slice a1 n c1,.slice a2 n c2] _ hr1 Tryz.underlying28 rfl zay ?_;clear hr1)
  | (go_at_call 48;refine cr.mono ?_;rintro e W2 ⟨v6,A,rfl,hA2,hAr,hAm,g2⟩;clear cr;obtain ⟨aa,aac,e6,hArw,_⟩:=hA2.rws;obtain ⟨an,han⟩:∃ n,n=A.length:=⟨_,rfl⟩;rw[← han] at e6;subst e6;have HAR:=hide hAr;have HAM:=hide hAm;have HAW:=hide hArw;have HAN:=hide han;have HG2:=hide (tn (uh HG1) g2);have HB2:=hide ((uh HB1).kept g2 (by simp));clear hA2 hAr hAm hArw han g2))
 have han9:an≤90000:=by
  rw[uh HAN]
  exact Nat.le_trans (zbc (uh HAR).nodup (fun x hx=>zhk ((uh HAM x).1 hx))) (zfw _ (fun e=>zde e.k e.d) S (uh HSS) R (by omega))
 go_loopw [7,8,9] (fun v7 v8 i wr=>∃ j:Nat,i = .int .i64 j∧j≤an∧Stg wr W2.heap.size v7 ((A.take j).filter (hasS S))∧Stg wr W2.heap.size v8 ((A.take j).filter fun x => !hasS S x)∧(v7.ownBlock=none∨v7.ownBlock≠v8.ownBlock)∧W2.grownBy wr none) (fun _ _ i _=>an - (intOf i).toNat)
 case atStart=>exact ⟨0,rfl,Nat.zero_le _,(by simpa using Stg.nil W2 W2.heap.size),(by simpa using Stg.nil W2 W2.heap.size),Or.inl rfl,zaa _ _⟩
 case round =>
  obtain ⟨j,rfl,hj,hT,hM,hap,hg⟩:=hrel
  by_cases hlt:j<an
  ·have hjA:j<A.length:=by rw[← uh HAN];exact hlt
   obtain ⟨b,o,hna,hcj⟩:=((uh HAW).kept hg).txt j hjA
   have hta:=List.take_succ_eq_append_getElem hjA
   obtain ⟨x,hx⟩:∃ x,x=A[j]:=⟨_,rfl⟩
   rw[← hx] at hcj hta
   obtain ⟨TX,hTX⟩:∃ T,T=str x:=⟨_,rfl⟩
   rw[← hTX] at hcj
   have hjw:IntKind.i64.wrap ((j:Int)+1)=(j:Int)+1:=by rw[IntKind.wrap_i64];omega
   have hTl:((A.take j).filter (hasS S)).length≤90000:=by have:=List.length_filter_le (hasS S) (A.take j);have:=List.length_take_le j A;omega
   have hMl:((A.take j).filter fun x => !hasS S x).length≤90000:=by have:=List.length_filter_le (fun x => !hasS S x) (A.take j);have:=List.length_take_le j A;omega
   have h0:wr.grownBy wr.drew none:=zaj (zaa _ _)
   have hcp:=uh HPL wr.drew x (tn (tn (uh HG2) hg) h0)
   rw[← hTX] at hcp
   have hrs:wr.rangeAt w.heap.size 0 [Value.slice a1 n c1,Value.slice a2 n c2]:=zad (zak (uh HB2)) hg (by simp)
   have HBST:Hid (∀ W:World,(Instr.buildSlice 25 1 #[(0,.string TX)]).run Tryz.prog W = .ok (.slice (some ⟨W.heap.size,0,none⟩) 1 1) (W.alloc (.cells (stR x).toArray 9))):=fun W=>by rw[hTX];exact zhw _ W
   obtain ⟨HT,HM,HAP,HG,HTA⟩:=zh5 hT hM hap hg hta
   clear hT hM hap hg hta hx hTX hjA
   subst hna
   go_upto_region 6 with fail
   refine wp_region_noPanic ?_
   refine wp_region_held_drew (S:=fun V=>wr.grownBy V none) (by kernel_rfl) h0 (fun _ => ?_)
   refine tz 0 19 (.load 28 (.tmp 2)) (.agg [Value.slice a1 n c1,Value.slice a2 n c2].toArray) h0 ?_ (y:=(yieldsIf_load_mid (by rfl) _ _ rfl _ _ rfl [Value.slice a1 n c1,Value.slice a2 n c2] _ (fun V hV=>zad hrs hV (by simp)) Tryz.underlying28 rfl zay))
   refine tq 1 20 (.move (.tmp 6)) (.slice (some ⟨b,o,none⟩) an aac) h0 ?_
   refine tq 2 21 (.move (.tmp 9)) (.int .i64 (j:Int)) h0 ?_
   refine tq 3 22 (.indexAddr 25 (.tmp 20) (.tmp 21)) (.pointer (some ⟨b,o+j,none⟩)) h0 ?_
   (try simp only[pq])
   refine tz 4 23 (.load 9 (.tmp 22)) (.string TX) h0 ?_ (y:=(Or.inl ⟨by rfl,fun V hV=>by (have hv1:=hV.cell hcj (by simp);go_simp)⟩))
   (try simp only[pq])
   refine rd 5 (some 24) (.call { callee := .value (.func 15),args := #[(.tmp 19),(.tmp 23)],argTypes := #[28,9] }) (fun K9 hK9 => ?_)
   go_simp
   go_at_call 15
   refine (hcp).mono ?_
   rintro e w4 ⟨r,rfl,g4a,hr⟩
   go_wp2_with fail
   refine hK9.out _ _ (tn h0 g4a) (fun _ => ?_)
   clear hK9 K9
   refine tq 6 25 (.binOp .geq 3 (.tmp 24) (.const (.int .i64 0)) 3) (.bool (decide (0≤r))) (tn h0 g4a) ?_
   (try simp only[pq])
   refine wpAnyH_done (by kernel_rfl) ?_ _
   refine NoPanic.normal ?_
   have hcj4:=(tn h0 g4a).cell hcj (by simp)
   have hG4:=tn (uh HG) (tn h0 g4a)
   have hT4:=(uh HT).kept (tn h0 g4a)
   have hM4:=(uh HM).kept (tn h0 g4a)
   obtain ⟨W5,hW5,hB5,g5⟩:=zae w4 9 (stR x)
   have hbs:=uh HBST w4
   rw[← hW5] at hbs
   have HBS:=hide hbs
   have HE5:=hide (Rws.one (K:=1) (f:=stR) hB5)
   have HT5:=hide (hT4.kept g5)
   have HM5:=hide (hM4.kept g5)
   have HG5:=hide (tn hG4 g5)
   clear hbs hW5 hB5 g5 hT4 hM4 hG4 hcj hrs
   cases hh:hasS S x with
   | true =>
    rw[hh] at hr
    have hr0:0≤r:=of_decide_eq_true hr.symm
    have e7:(A.take (j+1)).filter (hasS S)=(A.take j).filter (hasS S)++[x]:=by rw[uh HTA,List.filter_append];simp[hh]
    have e8:((A.take (j+1)).filter fun x => !hasS S x)=(A.take j).filter fun x => !hasS S x:=by rw[uh HTA,List.filter_append];simp[hh]
    obtain ⟨HE7,HE8⟩:=zh2 e7 e8
    clear e7 e8 hr hh
    go_wp2_with (first
     | (refine zap rfl 25 _ rfl (.string TX) _ rfl (uh HBS) ?_)
     | (refine zch rfl _ _ rfl W2.heap.size u7 _ [x] rfl (uh HT5) _ 1 1 rfl rfl (uh HE5) (by simp;omega) (uh HG5).size ?_;intro v9 w9 h9 g9 hat;have HT9:=hide h9;have HM9:=hide (World.ownsRow.kept (uh HM5) g9 (zt5 (uh HAP)));have HG9:=hide (zac (uh HG5) g9 (fun z e=>Or.inl ((World.ownsRow.lt (uh HT5)) z e).1));have HAP9:=hide (zzk (uh HAP) hat (fun k e=>(World.ownsRow.lt (uh HM5) k e).2));clear h9 g9 hat))
    go_roundw
    case rel=>exact ⟨j+1,by go_num,by omega,by rw[uh HE7];exact uh HT9,by rw[uh HE8];exact uh HM9,uh HAP9,uh HG9⟩
    case measure=>simp[intOf];omega
   | false =>
    rw[hh] at hr
    have hr0:¬ 0≤r:=of_decide_eq_false hr.symm
    have e7:(A.take (j+1)).filter (hasS S)=(A.take j).filter (hasS S):=by rw[uh HTA,List.filter_append];simp[hh]
    have e8:((A.take (j+1)).filter fun x => !hasS S x)=((A.take j).filter fun x => !hasS S x)++[x]:=by rw[uh HTA,List.filter_append];simp[hh]
    obtain ⟨HE7,HE8⟩:=zh2 e7 e8
    clear e7 e8 hr hh
    go_wp2_with (first
     | (refine zap rfl 25 _ rfl (.string TX) _ rfl (uh HBS) ?_)
     | (refine zch rfl _ _ rfl W2.heap.size u8 _ [x] rfl (uh HM5) _ 1 1 rfl rfl (uh HE5) (by simp;omega) (uh HG5).size ?_;intro v9 w9 h9 g9 hat;have HM9:=hide h9;have HT9:=hide (World.ownsRow.kept (uh HT5) g9 (uh HAP));have HG9:=hide (zac (uh HG5) g9 (fun z e=>Or.inl ((World.ownsRow.lt (uh HM5)) z e).1));have HAP9:=hide (zt5 (zzk (zt5 (uh HAP)) hat (fun k e=>(World.ownsRow.lt (uh HT5) k e).2)));clear h9 g9 hat))
    go_roundw
    case rel=>exact ⟨j+1,by go_num,by omega,by rw[uh HE7];exact uh HT9,by rw[uh HE8];exact uh HM9,uh HAP9,uh HG9⟩
    case measure=>simp[intOf];omega
  ·have hjn:j=A.length:=by rw[← uh HAN];omega
   rw[hjn,List.take_length] at hT hM
   obtain ⟨HT,HM⟩:=zh2 hT hM
   have HG:=hide (tn (uh HG2) hg)
   have HL:Hid (w.heap.size≤W2.heap.size):=(uh HG2).size
   clear hjn hT hM hap hg
   go_wp2
   go_ret2
   refine ⟨_,_,A.filter (hasS S),A.filter (fun x => !hasS S x),rfl,(uh HAR).filter _,(uh HAR).filter _,fun x => ?_,fun x => ?_,zax (uh HT) (uh HL),zax (uh HM) (uh HL),uh HG⟩
   ·rw[List.mem_filter,uh HAM]
   ·rw[List.mem_filter,uh HAM];simp
set_option maxHeartbeats 8000000 in
theorem zmi (w:World) (base:Nat) (v1 v2:Value) (S:List ObE) (h:RSet w base v1 v2 S) (hS:SetS S) (ao:Option Addr) (ac:Nat) (R:List (List UInt8)) (hA:Rws w 1 stR ao ac R) (hRl:R.length≤50000) (bo:Option Addr) (bc:Nat) (Q:List (List UInt8)) (hB:Rws w 1 stR bo bc Q) (hQl:Q.length≤50000) :
  Calls Tryz.prog 25 #[.agg #[v1,v2],.slice ao R.length ac,.slice bo Q.length bc] w fun e w'=>∃ (v:Value) (T:List (List UInt8)),e = .returned v∧Ris T∧(∀ x,x∈T↔(Rch (nxS S) R x∧hasS S x=true)∧¬ Rch (nxS S) Q x)∧Stg w' w.heap.size v T∧w.grownBy w' none:=by
 obtain ⟨a1,c1,e1⟩:=zbk h.ids
 obtain ⟨a2,c2,e2⟩:=zbk h.obs
 obtain ⟨n1,hn1⟩:∃ n,n=(idsS S).length:=⟨_,rfl⟩
 obtain ⟨n2,hn2⟩:∃ n,n=S.length:=⟨_,rfl⟩
 rw[← hn1] at e1
 rw[← hn2] at e2
 subst e1 e2
 obtain ⟨rn,hrn⟩:∃ n,n=R.length:=⟨_,rfl⟩
 obtain ⟨qn,hqn⟩:∃ n,n=Q.length:=⟨_,rfl⟩
 obtain ⟨W1,hW1,hB1,g1⟩:=zae w 28 [.slice a1 n1 c1,.slice a2 n2 c2]
 have cr:=zjn W1 base _ _ S (h.kept g1) hS ao ac R (hA.kept g1) hRl
 have cq:∀ V,W1.grownBy V none→Calls Tryz.prog 48 #[.agg #[.slice a1 n1 c1,.slice a2 n2 c2],.slice bo qn bc] V fun e w'=>∃ (v:Value) (T:List (List UInt8)),e = .returned v∧Stg w' V.heap.size v T∧Ris T∧(∀ x,x∈T↔Rch (nxS S) Q x)∧V.grownBy w' none:=fun V gV=>by
  rw[hqn]
  exact zgx V base _ _ S (h.kept (tn g1 gV)) hS bo bc Q (hB.kept (tn g1 gV)) hQl
 have hallR:=zfw (fun e=>za4 e.k e.d) (fun e=>zde e.k e.d) S hS R hRl
 have hallQ:=zfw (fun e=>za4 e.k e.d) (fun e=>zde e.k e.d) S hS Q hQl
 rw[← hrn] at cr ⊢
 rw[← hqn]
 have hr1:=zak hB1
 obtain ⟨HW1,HB1,HG1,HCQ,HLR,HLQ⟩:=zh6 hW1 hB1 g1 cq hallR hallQ
 clear hW1 hB1 g1 cq hn1 hn2 hrn hqn hS h hA hB hallR hallQ hRl hQl
 go_enter Tryz.func25,Tryz.ntmps25
 go_upto_region 5 with (first
  | (rw[← uh HW1])
  | (refine wpList_load_mid rfl 28 _ rfl w.heap.size 0 rfl [.slice a1 n1 c1,.slice a2 n2 c2] _ hr1 Tryz.underlying28 rfl zay ?_;clear hr1)
  | (go_at_call 23;refine cr.mono ?_;rintro e W2 ⟨v7,v8,A,M,rfl,hAr,_,hAm,_,hA2,hM2,g2⟩;clear cr;obtain ⟨aa,aac,e6,hArw,_⟩:=hA2.rws;obtain ⟨ma,mc,e7⟩:=zbk hM2;obtain ⟨an,han⟩:∃ n,n=A.length:=⟨_,rfl⟩;rw[← han] at e6;subst e6 e7;have HAR:=hide hAr;have HAM:=hide hAm;have HAW:=hide hArw;have HAN:=hide han;have HG2:=hide g2;have hr2:=zad (zak (uh HB1)) g2 (by simp);have cq2:=uh HCQ W2 g2;clear hA2 hM2 hAr hAm hArw han g2)
  | (refine wpList_load_mid rfl 28 _ rfl w.heap.size 0 rfl [.slice a1 n1 c1,.slice a2 n2 c2] _ hr2 Tryz.underlying28 rfl zay ?_;clear hr2)
  | (go_at_call 48;refine cq2.mono ?_;rintro e W3 ⟨v9,B,rfl,hB3,hBr,hBm,g3⟩;clear cq2;obtain ⟨ba,bac,e9,hBst⟩:=hB3.open;obtain ⟨bn,hbn⟩:∃ n,n=B.length:=⟨_,rfl⟩;rw[← hbn] at e9;subst e9;have HBS:=hide hBst;have HBM:=hide hBm;have HBN:=hide hbn;have HBR:=hide hBr;have HAW3:=hide ((uh HAW).kept g3);have HG3:=hide (tn (tn (uh HG1) (uh HG2)) g3);clear hB3 hBst hBm hbn hBr g3))
 have han9:an≤90000:=by
  rw[uh HAN]
  exact Nat.le_trans (zbc (uh HAR).nodup (fun x hx=>zhk ((uh HAM x).1 hx).1)) (uh HLR)
 have hbn9:B.length≤90000:=Nat.le_trans (zbc (uh HBR).nodup (fun x hx=>zhk ((uh HBM x).1 hx))) (uh HLQ)
 go_loopw [10,11] (fun v10 i wr=>∃ j:Nat,i = .int .i64 j∧j≤an∧Stg wr W3.heap.size v10 ((A.take j).filter fun x => !B.contains x)∧W3.grownBy wr none) (fun _ i _=>an - (intOf i).toNat)
 case atStart=>exact ⟨0,rfl,Nat.zero_le _,(by simpa using Stg.nil W3 W3.heap.size),zaa _ _⟩
 case round =>
  obtain ⟨j,rfl,hj,hT,hg⟩:=hrel
  by_cases hlt:j<an
  ·have hjA:j<A.length:=by rw[← uh HAN];exact hlt
   obtain ⟨b,o,hna,hcj⟩:=((uh HAW3).kept hg).txt j hjA
   have hta:=List.take_succ_eq_append_getElem hjA
   obtain ⟨x,hx⟩:∃ x,x=A[j]:=⟨_,rfl⟩
   rw[← hx] at hcj hta
   have ch:=zn8 wr W2.heap.size ba bac B ((uh HBS).kept hg) x (by omega)
   obtain ⟨TX,hTX⟩:∃ T,T=str x:=⟨_,rfl⟩
   rw[← hTX] at hcj ch
   rw[← uh HBN] at ch
   have hjw:IntKind.i64.wrap ((j:Int)+1)=(j:Int)+1:=by rw[IntKind.wrap_i64];omega
   have hTl:((A.take j).filter fun x => !B.contains x).length≤90000:=by have:=List.length_filter_le (fun x => !B.contains x) (A.take j);have:=List.length_take_le j A;omega
   have HBST:Hid (∀ W:World,(Instr.buildSlice 25 1 #[(0,.string TX)]).run Tryz.prog W = .ok (.slice (some ⟨W.heap.size,0,none⟩) 1 1) (W.alloc (.cells (stR x).toArray 9))):=fun W=>by rw[hTX];exact zhw _ W
   obtain ⟨HT,HG,HTA⟩:=zh3 hT hg hta
   clear hT hg hta hx hTX hjA
   subst hna
   cases hc:B.contains x with
   | true =>
    rw[hc] at ch
    have e7:((A.take (j+1)).filter fun x => !B.contains x)=(A.take j).filter fun x => !B.contains x:=by rw[uh HTA,List.filter_append];simp only[List.filter_cons,hc,List.filter_nil];simp
    have HE7:=hide e7
    clear e7 hc
    go_wp2_with (go_at_call 51;refine ch.mono ?_;rintro e w2 ⟨rfl,g2⟩;clear ch)
    go_roundw
    case rel=>exact ⟨j+1,by go_num,by omega,by rw[uh HE7];exact (uh HT).kept g2,tn (uh HG) g2⟩
    case measure=>simp[intOf];omega
   | false =>
    rw[hc] at ch
    have e7:((A.take (j+1)).filter fun x => !B.contains x)=((A.take j).filter fun x => !B.contains x)++[x]:=by rw[uh HTA,List.filter_append];simp only[List.filter_cons,hc,List.filter_nil];simp
    have HE7:=hide e7
    clear e7 hc
    go_wp2_with (first
     | (go_at_call 51;refine ch.mono ?_;rintro e w2 ⟨rfl,g2⟩;clear ch;have hc2:=g2.cell hcj (by simp);obtain ⟨W5,hW5,hB5,g5⟩:=zae w2 9 (stR x);have hbs:=uh HBST w2;rw[← hW5] at hbs;have HBSx:=hide hbs;have HE5:=hide (Rws.one (K:=1) (f:=stR) hB5);have HT5:=hide (((uh HT).kept g2).kept g5);have HG5:=hide (tn (tn (uh HG) g2) g5);clear hbs hW5 hB5 g5 g2)
     | (refine zap rfl 25 _ rfl (.string TX) _ rfl (uh HBSx) ?_)
     | (refine zgm rfl _ _ rfl W3.heap.size u10 _ [x] rfl (uh HT5) _ 1 1 rfl rfl (uh HE5) (by show _+1≤_;omega) (uh HG5).size ?_;intro v9 w9 h9 g9;have HT9:=hide h9;have HG9:=hide (zac (uh HG5) g9 (fun z e=>Or.inl ((World.ownsRow.lt (uh HT5)) z e).1));clear h9 g9))
    go_roundw
    case rel=>exact ⟨j+1,by go_num,by omega,by rw[uh HE7];exact uh HT9,uh HG9⟩
    case measure=>simp[intOf];omega
  ·have hjn:j=A.length:=by rw[← uh HAN];omega
   rw[hjn,List.take_length] at hT
   have HT:=hide hT
   have HG:=hide (tn (uh HG3) hg)
   have HL:Hid (w.heap.size≤W3.heap.size):=(uh HG3).size
   clear hjn hT hg
   go_wp2
   go_ret
   refine ⟨_,A.filter (fun x => !B.contains x),rfl,(uh HAR).filter _,fun x => ?_,zax (uh HT) (uh HL),uh HG⟩
   rw[List.mem_filter,uh HAM,← uh HBM]
   simp
end Go.Proofs.YthhnfloohbdaiaaGreatDoor
