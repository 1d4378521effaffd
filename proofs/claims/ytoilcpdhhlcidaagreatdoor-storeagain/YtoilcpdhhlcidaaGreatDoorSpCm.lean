/- Lemmas. -/
import Derived.Test.YtoilcpdhhlcidaaGreatDoorSpMv
namespace Go.Proofs.YtoilcpdhhlcidaaGreatDoor
open Go.RowKit
set_option maxRecDepth 100000
theorem zda (w:World) (s d:Nat) (h:w.cell? ⟨s,0,none⟩=some (.pointer (some ⟨d,0,none⟩))):Calls Tryz.prog 36 #[.pointer (some ⟨s,0,none⟩)] w fun e w'=>e = .returned (.bool true)∧w'=w:=by
 go_enter Tryz.func36,Tryz.ntmps36
 go_wp2
 go_ret
 exact ⟨rfl,rfl⟩
set_option maxHeartbeats 1000000 in
theorem zkl (w:World) (s d f e p g r m:Nat) (st:Bool) (hb:Blk w s 71 (stC d f e p g r m st)) (hp:p≤e) (he:e<9223372036854775808) :
  Calls Tryz.prog 17 #[.pointer (some ⟨s,0,none⟩)] w fun x w'=>x = .returned (.int .i64 ((e - p:Nat):Int))∧w.grownBy w' none:=by
 have cm:=zda w s d (by rw[hb.cell 0];rfl)
 have cl:=zkk w s 1 e p (by rw[hb.cell 2];rfl) (by rw[hb.cell 3];rfl) hp he
 clear hb hp he
 obtain ⟨z,hz⟩:∃ z,z=e - p:=⟨_,rfl⟩
 rw[← hz] at cl ⊢
 clear hz
 go_enter Tryz.func17,Tryz.ntmps17
 go_wp2_with (first
  | (go_at_call 36;refine cm.mono ?_;rintro e w1 ⟨rfl,hw1⟩;have hw2:=hw1.symm;clear hw1;subst hw2;clear cm)
  | (go_at_call 40;refine cl.mono ?_;rintro e w3 ⟨rfl,g3⟩;have HG3:=hide g3;clear g3 cl))
 go_ret
 exact ⟨rfl,uh HG3⟩
set_option maxHeartbeats 1000000 in
theorem znr (w:World) (s d f e p g r m:Nat) (st:Bool) (hb:Blk w s 71 (stC d f e p g r m st)) (h1:1≤g) (hg:g<18446744073709551616) :
  Calls Tryz.prog 18 #[.pointer (some ⟨s,0,none⟩)] w fun x w'=>x = .returned (.int .u64 ((g - 1:Nat):Int))∧w'=w:=by
 have cm:=zda w s d (by rw[hb.cell 0];rfl)
 have hc:w.cell? ⟨s,4,none⟩=some (.int .u64 (g:Int)):=by rw[hb.cell 4];rfl
 have hgw:IntKind.u64.wrap ((g:Int) - 1)=((g - 1:Nat):Int):=by rw[IntKind.wrap_u64];omega
 obtain ⟨z,hz⟩:∃ z,z=g - 1:=⟨_,rfl⟩
 rw[← hz] at hgw ⊢
 clear hb h1 hg hz
 go_enter Tryz.func18,Tryz.ntmps18
 go_wp2_with (go_at_call 36;refine cm.mono ?_;rintro e w1 ⟨rfl,hw1⟩;have hw2:=hw1.symm;clear hw1;subst hw2;clear cm)
 go_ret
 exact ⟨rfl,rfl⟩
set_option maxHeartbeats 1000000 in
theorem zns (w:World) (s d f e p g r m:Nat) (st:Bool) (hb:Blk w s 71 (stC d f e p g r m st)) (G:List Nat) (V:List (List UInt8 × List UInt8)) (hv:VmW w m G V) (k:List UInt8) (hl:((getK V k).getD []).length≤1000000) :
  Calls Tryz.prog 25 #[.pointer (some ⟨s,0,none⟩),.string (str k)] w fun x w'=>∃ ao c,x = .returned (.tuple #[.slice ao ((getK V k).getD []).length c,.bool (getK V k).isSome])∧Bts w' ao c ((getK V k).getD [])∧w.grownBy w' none:=by
 have cm:=zda w s d (by rw[hb.cell 0];rfl)
 have hc:w.cell? ⟨s,6,none⟩=some (.map (some m)):=by rw[hb.cell 6];rfl
 obtain ⟨ao,c,x,hlk,hbt,hx,_⟩:=hv.look k true
 rw[← hx] at hl ⊢
 have cb:=zfy w ao c x hbt hl
 obtain ⟨n,hn⟩:∃ n,n=x.length:=⟨_,rfl⟩
 obtain ⟨TK,hTK⟩:∃ T,T=str k:=⟨_,rfl⟩
 obtain ⟨is,his⟩:∃ b,b=(getK V k).isSome:=⟨_,rfl⟩
 simp only[if_true] at hlk
 rw[show keyS k = .string TK by rw[hTK];rfl,← hn,← his] at hlk
 rw[← hn,← hTK,← his]
 rw[← hn] at cb
 have HN:=hide hn
 clear hb hv hbt hx hl hn hTK his
 go_enter Tryz.func25,Tryz.ntmps25
 go_wp2_with (first
  | (go_at_call 36;refine cm.mono ?_;rintro e w1 ⟨rfl,hw1⟩;have hw2:=hw1.symm;clear hw1;subst hw2;clear cm)
  | (go_at_call 47;refine cb.mono ?_;rintro e w3 ⟨v3,rfl,ho3,g3⟩;obtain ⟨-,a3,c3,hv3,hb3,-⟩:=zco ho3;subst hv3;have HB3:=hide hb3;have HG3:=hide g3;clear g3 cb hb3 ho3))
 go_ret2
 exact ⟨a3,c3,rfl,uh HB3,uh HG3⟩
structure StM (u w:World) (F:List Nat) (s d m:Nat) (S:List (List UInt8)) (c g:Nat) (ls:List (List Chg)) (p:Nat) (rs:RSt):Prop where
 dw:Dw u w F d ⟨S,[],-1,false⟩
 blk:Blk w s 71 (stC d (c*rs.half) (c*rs.half+rs.half) p g ls.length m false)
 vm:VmW w m (s::F) rs.V
 on:OnS shaL S c g ls p rs
 sF:s∉F
 sU:u.heap.size≤s
 mF:m∉F
 mU:u.heap.size≤m
 hn:S.length / 2=rs.half
theorem StM.nn {u w w' : World} {F:List Nat} {s d m:Nat} {S:List (List UInt8)} {c g:Nat} {ls:List (List Chg)} {p:Nat} {rs:RSt} (h:StM u w F s d m S c g ls p rs) (g9:w.grownBy w' none):StM u w' F s d m S c g ls p rs :=
 ⟨h.dw.nn g9,h.blk.kept g9 (by simp),h.vm.nn g9,h.on,h.sF,h.sU,h.mF,h.mU,h.hn⟩
theorem StM.bnd {u w:World} {F:List Nat} {s d m:Nat} {S:List (List UInt8)} {c g:Nat} {ls:List (List Chg)} {p:Nat} {rs:RSt} (h:StM u w F s d m S c g ls p rs):S.length≤2048∧2*rs.half≤S.length∧c≤1∧rs.used≤rs.half∧p=c*rs.half+rs.used∧ls.length≤rs.half∧g=rs.moves+1:=by
 have h1:S.length≤2048:=h.dw.at_.ok.most
 have h2:=h.on.sto.recs.len
 have h3:=h.on.used
 have h4:=h.on.fits
 refine ⟨h1,h.on.sto.len,h.on.sto.c01,h4,h3,by omega,h.on.moves⟩
def CmA (u w w' : World) (F:List Nat) (s d m:Nat) (rs:RSt) (S:List (List UInt8)) (rs2:RSt):Prop :=
 ∃ F' m' S' c' g' ls' p',StM u w' F' s d m' S' c' g' ls' p' rs2∧(∀ y∈F',y∈F∨w.heap.size≤y)∧(m'=m∨w.heap.size≤m')∧Fr w w' (m::s::F)∧(rs2=rs→S'=S∨rs.used=rs2.used)
set_option maxHeartbeats 4000000 in
theorem zg3 {u w:World} {F:List Nat} {s d m:Nat} {S:List (List UInt8)} {c g:Nat} {ls:List (List Chg)} {p:Nat} {rs:RSt} (h:StM u w F s d m S c g ls p rs) (hT:Tabs w) (ao:Option Addr) (ac:Nat) (L:List ChI) (hc:CsG w ao ac L (m::s::F)) (hL:L.length≤1000000) (hg:rs.moves≤1000000000) (hV:rs.V.length≤100000) :
  Calls Tryz.prog 15 #[.pointer (some ⟨s,0,none⟩),.slice ao L.length ac] w fun x w'=>x = .returned (.int .i64 (cmS rs (L.map ChI.chg)).2)∧CmA u w w' F s d m rs S (cmS rs (L.map ChI.chg)).1:=by
 obtain ⟨b1,b2,b3,b4,b5,b6,b7⟩:=h.bnd
 have cm:=zda w s d (by rw[h.blk.cell 0];rfl)
 have hst:w.cell? ⟨s,7,none⟩=some (.bool false):=by rw[h.blk.cell 7];rfl
 have cb:=zfs w ao ac L hc.is hL
 obtain ⟨l,hl⟩:∃ l,l=L.map ChI.chg:=⟨_,rfl⟩
 have hle:l=[]↔L.length=0:=by rw[hl,List.map_eq_nil_iff,List.length_eq_zero_iff]
 rw[← hl] at cb ⊢
 obtain ⟨nL,hnL⟩:∃ n,n=L.length:=⟨_,rfl⟩
 rw[← hnL] at cb hle ⊢
 have same:∀ w',w.grownBy w' none→CmA u w w' F s d m rs S rs:=fun w' g9=>⟨F,m,S,c,g,ls,p,h.nn g9,fun _ hy=>Or.inl hy,Or.inl rfl,Fr.none g9 _,fun _=>Or.inl rfl⟩
 have HSM:=hide same
 by_cases hmay:MayC l
 ·rw[(zbi l).2 hmay] at cb
  by_cases hl0:l=[]
  ·have e1:cmS rs l=(rs,0):=by unfold cmS;rw[if_neg (fun e=>e hmay),if_pos hl0]
   rw[e1]
   have hn0:nL=0:=hle.1 hl0
   subst hn0
   clear hle h hT hc hL hg hV b1 b2 b3 b4 b5 b6 b7 hl hnL same hmay hl0 e1
   go_enter Tryz.func15,Tryz.ntmps15
   go_wp2_with (first
    | (go_at_call 36;refine cm.mono ?_;rintro e w1 ⟨rfl,hw1⟩;have hw2:=hw1.symm;clear hw1;subst hw2;clear cm)
    | (go_at_call 37;refine cb.mono ?_;rintro e w3 ⟨rfl,g3⟩;have HG3:=hide g3;clear g3 cb))
   go_ret
   exact ⟨rfl,uh HSM _ (uh HG3)⟩
  ·have hn0:nL≠0:=fun e=>hl0 (hle.2 e)
   have hn0b:((nL:Int) == 0)=false:=beq_eq_false_iff_ne.2 (by omega)
   have hhr:∀ W,w.grownBy W none→Calls Tryz.prog 38 #[.pointer (some ⟨s,1,none⟩),.slice ao nL ac] W fun r w'=>r = .returned (.bool (decide (za9 l≤rs.half - rs.used)))∧W.grownBy w' none:=fun W gW=>by
    have hb':=h.blk.kept gW (by simp)
    have:=zf5 W s 1 (c*rs.half+rs.half) p (by rw[hb'.cell 2];rfl) (by rw[hb'.cell 3];rfl) (by omega) (by rcases (show c=0∨c=1 by omega) with rfl | rfl <;> omega) ao ac L (hc.is.kept gW) (by rw[← hl];exact hmay)
    rw[← hl,← hnL,show c*rs.half+rs.half - p=rs.half - rs.used by omega] at this
    exact this
   by_cases hroom:za9 l≤rs.half - rs.used
   ·rw[decide_eq_true hroom] at hhr
    have e1:cmS rs l=({ rs with V:=zaj rs.V l,used:=rs.used+za9 l },0):=by unfold cmS;rw[if_neg (fun e=>e hmay),if_neg hl0,if_pos (by omega)]
    rw[e1]
    have hpl:p+za9 l≤S.length:=by rcases (show c=0∨c=1 by omega) with rfl | rfl <;> omega
    have hsw:∀ W,w.grownBy W none→Calls Tryz.prog 31 #[.pointer (some ⟨s,0,none⟩),.agg (hfC (c*rs.half) (c*rs.half+rs.half) p g ls.length m).toArray,.slice ao nL ac] W fun x w'=>x = .returned (.int .i64 0)∧CmA u w w' F s d m rs S { rs with V:=zaj rs.V l,used:=rs.used+za9 l }:=fun W gW=>by
     have h':=h.nn gW
     have:=zep h'.dw (by simp) (hT.kept0 gW) s _ _ _ _ _ _ _ h'.blk h'.sF h'.sU (c*rs.half) (c*rs.half+rs.half) p g ls.length m rs.V h'.vm h'.mF h'.mU ao ac L (hc.nn gW) (by rw[← hl];exact hmay) (by rw[← hl];exact hpl) (by omega)
     rw[← hl,zhm h.dw.at_.ok.wide hpl,← hnL] at this
     refine this.mono fun x w' q => ?_
     obtain ⟨q1,F',q2,q3,q4,q5⟩:=q
     obtain ⟨q6,q7⟩:=q5 rfl
     have hon:=h.on.more zbg hmay (by omega) (by omega)
     have hmF' : m∉F':=fun hm=>by
      rcases q3 m hm with h9 | h9
      ·exact h.mF h9
      ·have:=h'.vm.lt;omega
     refine ⟨q1,F',m,wrS shaL S p g ls.length l,c,g,ls++[l],zat p l,⟨q2,?_,q7,hon,fun hm => ?_,h.sU,hmF',h.mU,by rw[zcj];exact h.hn⟩,fun y hy=>(q3 y hy).imp id (fun e=>Nat.le_trans gW.size e),Or.inl rfl,(Fr.none gW _).trans q4 (fun x hx=>Or.inl hx),fun e => ?_⟩
     ·rw[zbl,show (ls++[l]).length=ls.length+1 by simp]
      exact q6
     ·rcases q3 s hm with h9 | h9
      ·exact h.sF h9
      ·have:=h'.blk.lt;omega
     ·have:=congrArg RSt.used e
      simp only at this
      unfold za9 at this
      omega
    have hrow:∀ W,w.grownBy W none→W.rangeAt s 1 (hfC (c*rs.half) (c*rs.half+rs.half) p g ls.length m):=fun W gW=>Blk.range (A:=[.pointer (some ⟨d,0,none⟩)]) (C:=[.bool false]) (h.blk.kept gW (by simp))
    obtain ⟨H1,hH1⟩:∃ H,H=hfC (c*rs.half) (c*rs.half+rs.half) p g ls.length m:=⟨_,rfl⟩
    rw[← hH1] at hsw hrow
    have HHL:=hide (show (Tryz.prog.info? 69).map (·.size)=some H1.length by rw[hH1];simp[hfC,zap])
    obtain ⟨HHR,HSW,HRW⟩:=zh3 hhr hsw hrow
    clear hle h hT hc hL hg hV b1 b2 b3 b4 b5 b6 b7 hl hnL same hmay hl0 hroom hhr hpl hsw hrow hH1 e1
    go_enter Tryz.func15,Tryz.ntmps15
    go_wp2_with (first
     | (go_at_call 36;refine cm.mono ?_;rintro e w1 ⟨rfl,hw1⟩;have hw2:=hw1.symm;clear hw1;subst hw2;clear cm)
     | (go_at_call 37;refine cb.mono ?_;rintro e w3 ⟨rfl,g3⟩;have HG3:=hide g3;clear g3 cb)
     | (go_at_call 38;refine (uh HHR _ (uh HG3)).mono ?_;rintro e w4 ⟨rfl,g4⟩;have HG4:=hide (tn (uh HG3) g4);clear g4;have hr9:=uh HRW _ (uh HG4))
     | (refine wpList_load_mid rfl 69 _ rfl s 1 rfl H1 _ hr9 Tryz.underlying69 rfl (uh HHL) ?_;clear hr9)
     | (go_at_call 31;refine (uh HSW _ (uh HG4)).mono ?_;rintro e w5 ⟨rfl,hcm⟩;have HCM:=hide hcm;clear hcm))
    go_ret
    exact ⟨rfl,uh HCM⟩
   ·rw[decide_eq_false hroom] at hhr
    have e1:cmS rs l=if rs.half<za9 (allC (zaj rs.V l))∨4096<(zaj rs.V l).length then (rs,15) else ({ rs with V:=zaj rs.V l,used:=za9 (allC (zaj rs.V l)),moves:=rs.moves+1 },0):=by unfold cmS;rw[if_neg (fun e=>e hmay),if_neg hl0,if_neg (by omega)]
    have hkeys:∀ y∈zaj rs.V l,1≤y.1.length∧y.1.length≤96∧y.2.length≤65536:=zca _ hmay.2 h.on.keys
    have hmc:MayC (allC (zaj rs.V l))↔(zaj rs.V l).length≤4096:=⟨fun e=>by have:=e.1;unfold allC at this;rw[List.length_map] at this;exact this,fun e=>zjw e hkeys⟩
    have hmv:∀ W,w.grownBy W none→Calls Tryz.prog 39 #[.pointer (some ⟨s,0,none⟩),.slice ao nL ac] W fun x w'=>x = .returned (.int .i64 (cmS rs l).2)∧CmA u w w' F s d m rs S (cmS rs l).1:=fun W gW=>by
     have h':=h.nn gW
     have:=zo5 h'.dw (hT.kept0 gW) s (c*rs.half) (c*rs.half+rs.half) p g ls.length m rs.half false h'.blk h'.sF h'.sU rs.V h'.vm ao ac L (hc.is.kept gW) (by rw[← hl];exact hmay) rfl (by rcases (show c=0∨c=1 by omega) with rfl | rfl <;> omega) (by omega) h.on.keys hV (by omega)
     rw[← hl,← hnL] at this
     refine this.mono fun x w' q => ?_
     rcases q with ⟨q1,q2,q3⟩ | ⟨q1,q2,F',m2,q3,q4,q5,q6,q7,q8,q9⟩
     ·have e2:cmS rs l=(rs,15):=by
       rw[e1,if_pos]
       by_cases h9:za9 (allC (zaj rs.V l))≤rs.half
       ·exact Or.inr (Nat.lt_of_not_le fun h8=>q1 ⟨hmc.2 h8,h9⟩)
       ·exact Or.inl (by omega)
      rw[e2]
      exact ⟨q2,uh HSM w' (tn gW q3)⟩
     ·have e2:cmS rs l=({ rs with V:=zaj rs.V l,used:=za9 (allC (zaj rs.V l)),moves:=rs.moves+1 },0):=by
       rw[e1,if_neg]
       rintro (h9 | h9)
       ·have:=q1.2;omega
       ·have:=hmc.1 q1.1;omega
      rw[e2]
      have hon:=h.on.move zbg hmay (hmc.1 q1.1) q1.2 (by omega)
      have hcc:(1 - c)*rs.half=rs.half - c*rs.half:=by rcases (show c=0∨c=1 by omega) with rfl | rfl <;> simp
      refine ⟨q2,F',m2,wrS shaL S ((1 - c)*rs.half) (g+1) 0 (allC (zaj rs.V l)),1 - c,g+1,[allC (zaj rs.V l)],zat ((1 - c)*rs.half) (allC (zaj rs.V l)),⟨?_,?_,q7,hon,fun hm => ?_,h.sU,q9,Nat.le_trans h.dw.gb.size (Nat.le_trans gW.size q8),by rw[zcj];exact h.hn⟩,fun y hy=>(q4 y hy).imp id (fun e=>Nat.le_trans gW.size e),Or.inr (Nat.le_trans gW.size q8),((Fr.none gW (s::F)).trans q5 (fun x hx=>Or.inl hx)).more (fun x hx=>Or.inl (List.mem_cons_of_mem _ hx)),fun e => ?_⟩
      ·rw[hcc];exact q3
      ·rw[zbl,hcc];exact q6
      ·rcases q4 s hm with h9 | h9
       ·exact h.sF h9
       ·have:=h'.blk.lt;omega
      ·have:=congrArg RSt.moves e
       simp only at this
       omega
    obtain ⟨HHR,HMV⟩:=zh2 hhr hmv
    clear hle h hT hc hL hg hV b1 b2 b3 b4 b5 b6 b7 hl hnL same hmay hl0 hroom hhr hmv hkeys hmc e1
    go_enter Tryz.func15,Tryz.ntmps15
    go_wp2_with (first
     | (go_at_call 36;refine cm.mono ?_;rintro e w1 ⟨rfl,hw1⟩;have hw2:=hw1.symm;clear hw1;subst hw2;clear cm)
     | (go_at_call 37;refine cb.mono ?_;rintro e w3 ⟨rfl,g3⟩;have HG3:=hide g3;clear g3 cb)
     | (go_at_call 38;refine (uh HHR _ (uh HG3)).mono ?_;rintro e w4 ⟨rfl,g4⟩;have HG4:=hide (tn (uh HG3) g4);clear g4)
     | (go_at_call 39;refine (uh HMV _ (uh HG4)).mono ?_;rintro e w5 ⟨rfl,hcm⟩;have HCM:=hide hcm;clear hcm))
    go_ret
    exact ⟨rfl,uh HCM⟩
 ·have hmf:mayB l=false:=by
   cases hq:mayB l with
   | false=>rfl
   | true=>exact absurd ((zbi l).1 hq) hmay
  rw[hmf] at cb
  have e1:cmS rs l=(rs,2):=by unfold cmS;rw[if_pos hmay]
  rw[e1]
  clear hle h hT hc hL hg hV b1 b2 b3 b4 b5 b6 b7 hl hnL same hmay hmf e1
  go_enter Tryz.func15,Tryz.ntmps15
  go_wp2_with (first
   | (go_at_call 36;refine cm.mono ?_;rintro e w1 ⟨rfl,hw1⟩;have hw2:=hw1.symm;clear hw1;subst hw2;clear cm)
   | (go_at_call 37;refine cb.mono ?_;rintro e w3 ⟨rfl,g3⟩;have HG3:=hide g3;clear g3 cb))
  go_ret
  exact ⟨rfl,uh HSM _ (uh HG3)⟩
end Go.Proofs.YtoilcpdhhlcidaaGreatDoor
