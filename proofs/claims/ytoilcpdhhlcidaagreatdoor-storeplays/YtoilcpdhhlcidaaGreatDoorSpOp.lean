/- Lemmas. -/
import Derived.Test.YtoilcpdhhlcidaaGreatDoorSpMv
namespace Go.Proofs.YtoilcpdhhlcidaaGreatDoor
open Go.RowKit
set_option maxRecDepth 100000
theorem zcu (w:World) (s d:Nat) (h:w.cell? ⟨s,0,none⟩=some (.pointer (some ⟨d,0,none⟩))):Calls Tryz.prog 36 #[.pointer (some ⟨s,0,none⟩)] w fun e w'=>e = .returned (.bool true)∧w'=w:=by
 go_enter Tryz.func36,Tryz.ntmps36
 go_wp2
 go_ret
 exact ⟨rfl,rfl⟩
set_option maxHeartbeats 1000000 in
theorem zlb (w:World) (s d f e p g r m:Nat) (st:Bool) (hb:Blk w s 71 (stC d f e p g r m st)) (hp:p≤e) (he:e<9223372036854775808) :
  Calls Tryz.prog 17 #[.pointer (some ⟨s,0,none⟩)] w fun x w'=>x = .returned (.int .i64 ((e - p:Nat):Int))∧w.grownBy w' none:=by
 have cm:=zcu w s d (by rw[hb.cell 0];rfl)
 have cl:=zla w s 1 e p (by rw[hb.cell 2];rfl) (by rw[hb.cell 3];rfl) hp he
 clear hb hp he
 obtain ⟨z,hz⟩:∃ z,z=e - p:=⟨_,rfl⟩
 rw[← hz] at cl ⊢
 clear hz
 go_enter Tryz.func17,Tryz.ntmps17
 go_wp2_with (first
  | (go_at_call 36;refine cm.mono ?_;rintro e w1 ⟨rfl,hw1⟩;have hw2:=hw1.symm;clear hw1;subst hw2;clear cm)
  | (go_at_call 40;refine cl.mono ?_;rintro e w3 ⟨rfl,g3⟩;have HG3:=hide g3;clear g3 cl))
 go_ret
 exact ⟨rfl,uh HG3⟩
set_option maxHeartbeats 1000000 in
theorem zoq (w:World) (s d f e p g r m:Nat) (st:Bool) (hb:Blk w s 71 (stC d f e p g r m st)) (h1:1≤g) (hg:g<18446744073709551616) :
  Calls Tryz.prog 18 #[.pointer (some ⟨s,0,none⟩)] w fun x w'=>x = .returned (.int .u64 ((g - 1:Nat):Int))∧w'=w:=by
 have cm:=zcu w s d (by rw[hb.cell 0];rfl)
 have hc:w.cell? ⟨s,4,none⟩=some (.int .u64 (g:Int)):=by rw[hb.cell 4];rfl
 have hgw:IntKind.u64.wrap ((g:Int) - 1)=((g - 1:Nat):Int):=by rw[IntKind.wrap_u64];omega
 obtain ⟨z,hz⟩:∃ z,z=g - 1:=⟨_,rfl⟩
 rw[← hz] at hgw ⊢
 clear hb h1 hg hz
 go_enter Tryz.func18,Tryz.ntmps18
 go_wp2_with (go_at_call 36;refine cm.mono ?_;rintro e w1 ⟨rfl,hw1⟩;have hw2:=hw1.symm;clear hw1;subst hw2;clear cm)
 go_ret
 exact ⟨rfl,rfl⟩
set_option maxHeartbeats 1000000 in
theorem zj6 (w:World) (s d f e p g r m:Nat) (st:Bool) (hb:Blk w s 71 (stC d f e p g r m st)) :
  Calls Tryz.prog 19 #[.pointer (some ⟨s,0,none⟩)] w fun x w'=>x = .returned (.bool st)∧w'=w:=by
 have cm:=zcu w s d (by rw[hb.cell 0];rfl)
 have hc:w.cell? ⟨s,7,none⟩=some (.bool st):=by rw[hb.cell 7];rfl
 clear hb
 go_enter Tryz.func19,Tryz.ntmps19
 go_wp2_with (go_at_call 36;refine cm.mono ?_;rintro e w1 ⟨rfl,hw1⟩;have hw2:=hw1.symm;clear hw1;subst hw2;clear cm)
 go_ret
 exact ⟨rfl,rfl⟩
set_option maxHeartbeats 1000000 in
theorem zor (w:World) (s d f e p g r m:Nat) (st:Bool) (hb:Blk w s 71 (stC d f e p g r m st)) (G:List Nat) (V:List (List UInt8 × List UInt8)) (hv:VmW w m G V) (k:List UInt8) (hl:((getK V k).getD []).length≤1000000) :
  Calls Tryz.prog 25 #[.pointer (some ⟨s,0,none⟩),.string (str k)] w fun x w'=>∃ ao c,x = .returned (.tuple #[.slice ao ((getK V k).getD []).length c,.bool (getK V k).isSome])∧Bts w' ao c ((getK V k).getD [])∧w.grownBy w' none:=by
 have cm:=zcu w s d (by rw[hb.cell 0];rfl)
 have hc:w.cell? ⟨s,6,none⟩=some (.map (some m)):=by rw[hb.cell 6];rfl
 obtain ⟨ao,c,x,hlk,hbt,hx,_⟩:=hv.look k true
 rw[← hx] at hl ⊢
 have cb:=zgf w ao c x hbt hl
 obtain ⟨n,hn⟩:∃ n,n=x.length:=⟨_,rfl⟩
 obtain ⟨TK,hTK⟩:∃ T,T=str k:=⟨_,rfl⟩
 obtain ⟨is,his⟩:∃ b,b=(getK V k).isSome:=⟨_,rfl⟩
 simp only[if_true] at hlk
 rw[show keyS k = .string TK by rw[hTK];rfl,← hn,← his] at hlk
 rw[← hn,← hTK,← his]
 rw[← hn] at cb
 have HN:=hide hn
 clear hb hv hbt hx hl hn hTK his
 go_enter Tryz.func25,Tryz.ntmps25
 go_wp2_with (first
  | (go_at_call 36;refine cm.mono ?_;rintro e w1 ⟨rfl,hw1⟩;have hw2:=hw1.symm;clear hw1;subst hw2;clear cm)
  | (go_at_call 47;refine cb.mono ?_;rintro e w3 ⟨v3,rfl,ho3,g3⟩;obtain ⟨-,a3,c3,hv3,hb3,-⟩:=zc1 ho3;subst hv3;have HB3:=hide hb3;have HG3:=hide g3;clear g3 cb hb3 ho3))
 go_ret2
 exact ⟨a3,c3,rfl,uh HB3,uh HG3⟩
structure StM (u w:World) (F:List Nat) (s d m:Nat) (S:List (List UInt8)) (c g:Nat) (ls:List (List Chg)) (p:Nat) (rs:RSt):Prop where
 dw:Dw u w F d ⟨S,[],-1,false⟩
 blk:Blk w s 71 (stC d (c*rs.half) (c*rs.half+rs.half) p g ls.length m false)
 vm:VmW w m (s::F) rs.V
 on:OnS shaL S c g ls p rs
 sF:s∉F
 sU:u.heap.size≤s
 mF:m∉F
 mU:u.heap.size≤m
 hn:S.length / 2=rs.half
theorem StM.nn {u w w' : World} {F:List Nat} {s d m:Nat} {S:List (List UInt8)} {c g:Nat} {ls:List (List Chg)} {p:Nat} {rs:RSt} (h:StM u w F s d m S c g ls p rs) (g9:w.grownBy w' none):StM u w' F s d m S c g ls p rs :=
 ⟨h.dw.nn g9,h.blk.kept g9 (by simp),h.vm.nn g9,h.on,h.sF,h.sU,h.mF,h.mU,h.hn⟩
theorem StM.bnd {u w:World} {F:List Nat} {s d m:Nat} {S:List (List UInt8)} {c g:Nat} {ls:List (List Chg)} {p:Nat} {rs:RSt} (h:StM u w F s d m S c g ls p rs):S.length≤2048∧2*rs.half≤S.length∧c≤1∧rs.used≤rs.half∧p=c*rs.half+rs.used∧ls.length≤rs.half∧g=rs.moves+1:=by
 have h1:S.length≤2048:=h.dw.at_.ok.most
 have h2:=h.on.sto.recs.len
 have h3:=h.on.used
 have h4:=h.on.fits
 refine ⟨h1,h.on.sto.len,h.on.sto.c01,h4,h3,by omega,h.on.moves⟩
def CmA (u w w' : World) (F:List Nat) (s d m:Nat) (rs:RSt) (S:List (List UInt8)) (rs2:RSt):Prop :=
 ∃ F' m' S' c' g' ls' p',StM u w' F' s d m' S' c' g' ls' p' rs2∧(∀ y∈F',y∈F∨w.heap.size≤y)∧(m'=m∨w.heap.size≤m')∧Fr w w' (m::s::F)∧(rs2=rs→S'=S∨rs.used=rs2.used)
set_option maxHeartbeats 4000000 in
theorem zhj {u w:World} {F:List Nat} {s d m:Nat} {S:List (List UInt8)} {c g:Nat} {ls:List (List Chg)} {p:Nat} {rs:RSt} (h:StM u w F s d m S c g ls p rs) (hT:Tabs w) (ao:Option Addr) (ac:Nat) (L:List ChI) (hc:CsG w ao ac L (m::s::F)) (hL:L.length≤1000000) (hg:rs.moves≤1000000000) (hV:rs.V.length≤100000) :
  Calls Tryz.prog 15 #[.pointer (some ⟨s,0,none⟩),.slice ao L.length ac] w fun x w'=>x = .returned (.int .i64 (cmS rs (L.map ChI.chg)).2)∧CmA u w w' F s d m rs S (cmS rs (L.map ChI.chg)).1:=by
 obtain ⟨b1,b2,b3,b4,b5,b6,b7⟩:=h.bnd
 have cm:=zcu w s d (by rw[h.blk.cell 0];rfl)
 have hst:w.cell? ⟨s,7,none⟩=some (.bool false):=by rw[h.blk.cell 7];rfl
 have cb:=zf9 w ao ac L hc.is hL
 obtain ⟨l,hl⟩:∃ l,l=L.map ChI.chg:=⟨_,rfl⟩
 have hle:l=[]↔L.length=0:=by rw[hl,List.map_eq_nil_iff,List.length_eq_zero_iff]
 rw[← hl] at cb ⊢
 obtain ⟨nL,hnL⟩:∃ n,n=L.length:=⟨_,rfl⟩
 rw[← hnL] at cb hle ⊢
 have same:∀ w',w.grownBy w' none→CmA u w w' F s d m rs S rs:=fun w' g9=>⟨F,m,S,c,g,ls,p,h.nn g9,fun _ hy=>Or.inl hy,Or.inl rfl,Fr.none g9 _,fun _=>Or.inl rfl⟩
 have HSM:=hide same
 by_cases hmay:MayC l
 ·rw[(za5 l).2 hmay] at cb
  by_cases hl0:l=[]
  ·have e1:cmS rs l=(rs,0):=by unfold cmS;rw[if_neg (fun e=>e hmay),if_pos hl0]
   rw[e1]
   have hn0:nL=0:=hle.1 hl0
   subst hn0
   clear hle h hT hc hL hg hV b1 b2 b3 b4 b5 b6 b7 hl hnL same hmay hl0 e1
   go_enter Tryz.func15,Tryz.ntmps15
   go_wp2_with (first
    | (go_at_call 36;refine cm.mono ?_;rintro e w1 ⟨rfl,hw1⟩;have hw2:=hw1.symm;clear hw1;subst hw2;clear cm)
    | (go_at_call 37;refine cb.mono ?_;rintro e w3 ⟨rfl,g3⟩;have HG3:=hide g3;clear g3 cb))
   go_ret
   exact ⟨rfl,uh HSM _ (uh HG3)⟩
  ·have hn0:nL≠0:=fun e=>hl0 (hle.2 e)
   have hn0b:((nL:Int) == 0)=false:=beq_eq_false_iff_ne.2 (by omega)
   have hhr:∀ W,w.grownBy W none→Calls Tryz.prog 38 #[.pointer (some ⟨s,1,none⟩),.slice ao nL ac] W fun r w'=>r = .returned (.bool (decide (zbc l≤rs.half - rs.used)))∧W.grownBy w' none:=fun W gW=>by
    have hb':=h.blk.kept gW (by simp)
    have:=zgl W s 1 (c*rs.half+rs.half) p (by rw[hb'.cell 2];rfl) (by rw[hb'.cell 3];rfl) (by omega) (by rcases (show c=0∨c=1 by omega) with rfl | rfl <;> omega) ao ac L (hc.is.kept gW) (by rw[← hl];exact hmay)
    rw[← hl,← hnL,show c*rs.half+rs.half - p=rs.half - rs.used by omega] at this
    exact this
   by_cases hroom:zbc l≤rs.half - rs.used
   ·rw[decide_eq_true hroom] at hhr
    have e1:cmS rs l=({ rs with V:=zal rs.V l,used:=rs.used+zbc l },0):=by unfold cmS;rw[if_neg (fun e=>e hmay),if_neg hl0,if_pos (by omega)]
    rw[e1]
    have hpl:p+zbc l≤S.length:=by rcases (show c=0∨c=1 by omega) with rfl | rfl <;> omega
    have hsw:∀ W,w.grownBy W none→Calls Tryz.prog 31 #[.pointer (some ⟨s,0,none⟩),.agg (hfC (c*rs.half) (c*rs.half+rs.half) p g ls.length m).toArray,.slice ao nL ac] W fun x w'=>x = .returned (.int .i64 0)∧CmA u w w' F s d m rs S { rs with V:=zal rs.V l,used:=rs.used+zbc l }:=fun W gW=>by
     have h':=h.nn gW
     have:=ze6 h'.dw (by simp) (hT.kept0 gW) s _ _ _ _ _ _ _ h'.blk h'.sF h'.sU (c*rs.half) (c*rs.half+rs.half) p g ls.length m rs.V h'.vm h'.mF h'.mU ao ac L (hc.nn gW) (by rw[← hl];exact hmay) (by rw[← hl];exact hpl) (by omega)
     rw[← hl,zh9 h.dw.at_.ok.wide hpl,← hnL] at this
     refine this.mono fun x w' q => ?_
     obtain ⟨q1,F',q2,q3,q4,q5⟩:=q
     obtain ⟨q6,q7⟩:=q5 rfl
     have hon:=h.on.more zbp hmay (by omega) (by omega)
     have hmF' : m∉F':=fun hm=>by
      rcases q3 m hm with h9 | h9
      ·exact h.mF h9
      ·have:=h'.vm.lt;omega
     refine ⟨q1,F',m,wrS shaL S p g ls.length l,c,g,ls++[l],zaz p l,⟨q2,?_,q7,hon,fun hm => ?_,h.sU,hmF',h.mU,by rw[zc0];exact h.hn⟩,fun y hy=>(q3 y hy).imp id (fun e=>Nat.le_trans gW.size e),Or.inl rfl,(Fr.none gW _).trans q4 (fun x hx=>Or.inl hx),fun e => ?_⟩
     ·rw[zb2,show (ls++[l]).length=ls.length+1 by simp]
      exact q6
     ·rcases q3 s hm with h9 | h9
      ·exact h.sF h9
      ·have:=h'.blk.lt;omega
     ·have:=congrArg RSt.used e
      simp only at this
      unfold zbc at this
      omega
    have hrow:∀ W,w.grownBy W none→W.rangeAt s 1 (hfC (c*rs.half) (c*rs.half+rs.half) p g ls.length m):=fun W gW=>Blk.range (A:=[.pointer (some ⟨d,0,none⟩)]) (C:=[.bool false]) (h.blk.kept gW (by simp))
    obtain ⟨H1,hH1⟩:∃ H,H=hfC (c*rs.half) (c*rs.half+rs.half) p g ls.length m:=⟨_,rfl⟩
    rw[← hH1] at hsw hrow
    have HHL:=hide (show (Tryz.prog.info? 69).map (·.size)=some H1.length by rw[hH1];simp[hfC,zau])
    obtain ⟨HHR,HSW,HRW⟩:=zh3 hhr hsw hrow
    clear hle h hT hc hL hg hV b1 b2 b3 b4 b5 b6 b7 hl hnL same hmay hl0 hroom hhr hpl hsw hrow hH1 e1
    go_enter Tryz.func15,Tryz.ntmps15
    go_wp2_with (first
     | (go_at_call 36;refine cm.mono ?_;rintro e w1 ⟨rfl,hw1⟩;have hw2:=hw1.symm;clear hw1;subst hw2;clear cm)
     | (go_at_call 37;refine cb.mono ?_;rintro e w3 ⟨rfl,g3⟩;have HG3:=hide g3;clear g3 cb)
     | (go_at_call 38;refine (uh HHR _ (uh HG3)).mono ?_;rintro e w4 ⟨rfl,g4⟩;have HG4:=hide (tn (uh HG3) g4);clear g4;have hr9:=uh HRW _ (uh HG4))
     | (refine wpList_load_mid rfl 69 _ rfl s 1 rfl H1 _ hr9 Tryz.underlying69 rfl (uh HHL) ?_;clear hr9)
     | (go_at_call 31;refine (uh HSW _ (uh HG4)).mono ?_;rintro e w5 ⟨rfl,hcm⟩;have HCM:=hide hcm;clear hcm))
    go_ret
    exact ⟨rfl,uh HCM⟩
   ·rw[decide_eq_false hroom] at hhr
    have e1:cmS rs l=if rs.half<zbc (allC (zal rs.V l))∨4096<(zal rs.V l).length then (rs,15) else ({ rs with V:=zal rs.V l,used:=zbc (allC (zal rs.V l)),moves:=rs.moves+1 },0):=by unfold cmS;rw[if_neg (fun e=>e hmay),if_neg hl0,if_neg (by omega)]
    have hkeys:∀ y∈zal rs.V l,1≤y.1.length∧y.1.length≤96∧y.2.length≤65536:=zcc _ hmay.2 h.on.keys
    have hmc:MayC (allC (zal rs.V l))↔(zal rs.V l).length≤4096:=⟨fun e=>by have:=e.1;unfold allC at this;rw[List.length_map] at this;exact this,fun e=>zkm e hkeys⟩
    have hmv:∀ W,w.grownBy W none→Calls Tryz.prog 39 #[.pointer (some ⟨s,0,none⟩),.slice ao nL ac] W fun x w'=>x = .returned (.int .i64 (cmS rs l).2)∧CmA u w w' F s d m rs S (cmS rs l).1:=fun W gW=>by
     have h':=h.nn gW
     have:=zqf h'.dw (hT.kept0 gW) s (c*rs.half) (c*rs.half+rs.half) p g ls.length m rs.half false h'.blk h'.sF h'.sU rs.V h'.vm ao ac L (hc.is.kept gW) (by rw[← hl];exact hmay) rfl (by rcases (show c=0∨c=1 by omega) with rfl | rfl <;> omega) (by omega) h.on.keys hV (by omega)
     rw[← hl,← hnL] at this
     refine this.mono fun x w' q => ?_
     rcases q with ⟨q1,q2,q3⟩ | ⟨q1,q2,F',m2,q3,q4,q5,q6,q7,q8,q9⟩
     ·have e2:cmS rs l=(rs,15):=by
       rw[e1,if_pos]
       by_cases h9:zbc (allC (zal rs.V l))≤rs.half
       ·exact Or.inr (Nat.lt_of_not_le fun h8=>q1 ⟨hmc.2 h8,h9⟩)
       ·exact Or.inl (by omega)
      rw[e2]
      exact ⟨q2,uh HSM w' (tn gW q3)⟩
     ·have e2:cmS rs l=({ rs with V:=zal rs.V l,used:=zbc (allC (zal rs.V l)),moves:=rs.moves+1 },0):=by
       rw[e1,if_neg]
       rintro (h9 | h9)
       ·have:=q1.2;omega
       ·have:=hmc.1 q1.1;omega
      rw[e2]
      have hon:=h.on.move zbp hmay (hmc.1 q1.1) q1.2 (by omega)
      have hcc:(1 - c)*rs.half=rs.half - c*rs.half:=by rcases (show c=0∨c=1 by omega) with rfl | rfl <;> simp
      refine ⟨q2,F',m2,wrS shaL S ((1 - c)*rs.half) (g+1) 0 (allC (zal rs.V l)),1 - c,g+1,[allC (zal rs.V l)],zaz ((1 - c)*rs.half) (allC (zal rs.V l)),⟨?_,?_,q7,hon,fun hm => ?_,h.sU,q9,Nat.le_trans h.dw.gb.size (Nat.le_trans gW.size q8),by rw[zc0];exact h.hn⟩,fun y hy=>(q4 y hy).imp id (fun e=>Nat.le_trans gW.size e),Or.inr (Nat.le_trans gW.size q8),((Fr.none gW (s::F)).trans q5 (fun x hx=>Or.inl hx)).more (fun x hx=>Or.inl (List.mem_cons_of_mem _ hx)),fun e => ?_⟩
      ·rw[hcc];exact q3
      ·rw[zb2,hcc];exact q6
      ·rcases q4 s hm with h9 | h9
       ·exact h.sF h9
       ·have:=h'.blk.lt;omega
      ·have:=congrArg RSt.moves e
       simp only at this
       omega
    obtain ⟨HHR,HMV⟩:=zh2 hhr hmv
    clear hle h hT hc hL hg hV b1 b2 b3 b4 b5 b6 b7 hl hnL same hmay hl0 hroom hhr hmv hkeys hmc e1
    go_enter Tryz.func15,Tryz.ntmps15
    go_wp2_with (first
     | (go_at_call 36;refine cm.mono ?_;rintro e w1 ⟨rfl,hw1⟩;have hw2:=hw1.symm;clear hw1;subst hw2;clear cm)
     | (go_at_call 37;refine cb.mono ?_;rintro e w3 ⟨rfl,g3⟩;have HG3:=hide g3;clear g3 cb)
     | (go_at_call 38;refine (uh HHR _ (uh HG3)).mono ?_;rintro e w4 ⟨rfl,g4⟩;have HG4:=hide (tn (uh HG3) g4);clear g4)
     | (go_at_call 39;refine (uh HMV _ (uh HG4)).mono ?_;rintro e w5 ⟨rfl,hcm⟩;have HCM:=hide hcm;clear hcm))
    go_ret
    exact ⟨rfl,uh HCM⟩
 ·have hmf:mayB l=false:=by
   cases hq:mayB l with
   | false=>rfl
   | true=>exact absurd ((za5 l).1 hq) hmay
  rw[hmf] at cb
  have e1:cmS rs l=(rs,2):=by unfold cmS;rw[if_pos hmay]
  rw[e1]
  clear hle h hT hc hL hg hV b1 b2 b3 b4 b5 b6 b7 hl hnL same hmay hmf e1
  go_enter Tryz.func15,Tryz.ntmps15
  go_wp2_with (first
   | (go_at_call 36;refine cm.mono ?_;rintro e w1 ⟨rfl,hw1⟩;have hw2:=hw1.symm;clear hw1;subst hw2;clear cm)
   | (go_at_call 37;refine cb.mono ?_;rintro e w3 ⟨rfl,g3⟩;have HG3:=hide g3;clear g3 cb))
  go_ret
  exact ⟨rfl,uh HSM _ (uh HG3)⟩
theorem zos (d f e p g r m:Nat):Tryz.prog.built 71 [(0,.pointer (some ⟨d,0,none⟩)),(1,.agg (hfC f e p g r m).toArray)]=some (stC d f e p g r m false).toArray:=by kernel_rfl
theorem CsG.empty (w:World) (G:List Nat):CsG w none 0 ([]:List ChI) G:=by
 refine ⟨⟨⟨fun _=>⟨rfl,rfl⟩,Nat.le_refl _,Nat.zero_le _,fun _ e => ?_,fun _ e => ?_⟩,fun x h => ?_⟩,fun _ e => ?_,fun x h => ?_⟩
 ·cases e
 ·cases e
 ·cases h
 ·cases e
 ·cases h
structure OpR (u w w' : World) (F:List Nat) (d:Nat) (D:Dsk) (n:Nat) (x:Ending) (ls0:List (List Chg)) (g0 p0:Nat) (ls1:List (List Chg)) (g1 p1:Nat):Prop where
 h0:HfS D.safe n 0 g0 p0 ls0
 h1:HfS D.safe (2*n) n g1 p1 ls1
 one:g0<g1→∃ s m,x = .returned (.tuple #[.pointer (some ⟨s,0,none⟩),.int .i64 0])∧w.grownBy w' none∧Blk w' s 71 (stC d n (2*n) p1 g1 ls1.length m false)∧VmW w' m (s::F) (zal [] ls1.flatten)∧w.heap.size≤s∧w.heap.size≤m
 zero:g1≤g0→0<g0→∃ s m,x = .returned (.tuple #[.pointer (some ⟨s,0,none⟩),.int .i64 0])∧w.grownBy w' none∧Blk w' s 71 (stC d 0 n p0 g0 ls0.length m false)∧VmW w' m (s::F) (zal [] ls0.flatten)∧w.heap.size≤s∧w.heap.size≤m
 new:g1≤g0→g0=0→∃ F',Dw u w' F' d (swD D 0 1 0 []).1∧(∀ y∈F',y∈F∨w.heap.size≤y)∧Fr w w' F∧((swD D 0 1 0 []).2≠0→x = .returned (.tuple #[.pointer none,.int .i64 (swD D 0 1 0 []).2])) ∧
  ((swD D 0 1 0 []).2=0→∃ s m,x = .returned (.tuple #[.pointer (some ⟨s,0,none⟩),.int .i64 0])∧Blk w' s 71 (stC d 0 n 2 1 1 m false)∧VmW w' m (s::F') []∧s∉F'∧m∉F'∧w.heap.size≤s∧w.heap.size≤m)
set_option maxHeartbeats 4000000 in
theorem zlc {u w:World} {F:List Nat} {d:Nat} {D:Dsk} (h:Dw u w F d D) (hd:D.down=false) (hU:D.U=[]) (hT:Tabs w) (n:Nat) (hn:D.safe.length / 2=n) (h8:8≤D.safe.length) :
  Calls Tryz.prog 10 #[.pointer (some ⟨d,0,none⟩)] w fun x w'=>∃ ls0 g0 p0 ls1 g1 p1,OpR u w w' F d D n x ls0 g0 p0 ls1 g1 p1:=by
 have hmost:=h.at_.ok.most
 have hsc:=znc _ w F d D h.at_
 have hdn:=znb _ w F d D h.at_
 rw[hd] at hdn
 obtain ⟨k,hk⟩:∃ k,k=D.safe.length:=⟨_,rfl⟩
 rw[← hk] at hsc hn hmost h8
 have hk0:((k:Int) == 0)=false:=beq_eq_false_iff_ne.2 (by omega)
 have hk8:¬ (k:Int)<8:=by omega
 have hq:Int.tdiv (k:Int) 2=(n:Int):=by rw[Int.tdiv_eq_ediv_of_nonneg (by omega)];omega
 have hqw:IntKind.i64.wrap (n:Int)=(n:Int):=by rw[IntKind.wrap_i64];omega
 obtain ⟨n2,hn2⟩:∃ n2,n2=2*n:=⟨_,rfl⟩
 have hnw:IntKind.i64.wrap (2*(n:Int))=(n2:Int):=by rw[IntKind.wrap_i64];omega
 have c1:=zfg h hd hU hT 0 n (by omega) (Nat.zero_le _) F (fun x hx=>(h.lo x hx).2)
 rw[show ((0:Nat):Int)=0 from rfl] at c1
 obtain ⟨Y,hY⟩:∃ Y:List Value,Y=[.int .i64 0,.int .i64 0,.int .i64 0,.int .u64 0,.int .u64 0,.map none]:=⟨_,rfl⟩
 have hzvh:=zdh
 rw[show (#[.int .i64 0,.int .i64 0,.int .i64 0,.int .u64 0,.int .u64 0,.map none]:Array Value)=Y.toArray by rw[hY]] at hzvh
 have HYL:=hide (show Y.length=6 by rw[hY];rfl)
 clear hY
 obtain ⟨HD,HDD,HUU,HT,HN2⟩:=zh5 h hd hU hT hn2
 have HKN:=hide (show n2≤D.safe.length∧n≤n2∧n≤D.safe.length∧4≤n∧D.safe.length≤2048 by omega)
 clear h hd hU hT hk hmost hn hn2 h8
 go_enter Tryz.func10,Tryz.ntmps10
 go_wp2_with (first
  | (go_at_call 28;refine hsc.mono ?_;rintro e w9 ⟨rfl,hw9⟩;have hw8:=hw9.symm;clear hw9;subst hw8)
  | (go_at_call 29;refine hdn.mono ?_;rintro e w9 ⟨rfl,hw9⟩;have hw8:=hw9.symm;clear hw9;subst hw8)
  | (go_at_call 30;fail))
 refine c1.mono ?_
 rintro e w1 ⟨ls0,g0,p0,m0,rfl,hf0,hv0,hm0,gr1⟩
 obtain ⟨W2,hW2,hB2,g2⟩:=zah w1 71 (stC d 0 n p0 g0 ls0.length m0 false)
 have hwl:w.heap.size≤w1.heap.size:=gr1.size
 have hd2:=(uh HD).nn (tn gr1 g2)
 have hsF:w1.heap.size∉F:=fun hx=>by have:=((uh HD).lo _ hx).2;omega
 have c2:=zfg hd2 (uh HDD) (uh HUU) ((uh HT).kept0 (tn gr1 g2)) n n2 (uh HKN).1 (uh HKN).2.1 (w1.heap.size::F) (fun x hx=>by
  simp only[List.mem_cons] at hx
  rcases hx with rfl | hx
  ·exact hB2.lt
  ·exact (hd2.lo x hx).2)
 have hv2:VmW W2 m0 (w1.heap.size::F) (zal [] ls0.flatten):=(hv0.more (fun x hx=>by
  simp only[List.mem_cons] at hx
  rcases hx with rfl | hx
  ·exact Or.inr (Or.inl (Nat.le_refl _))
  ·exact Or.inl hx)).nn g2
 have hbl:=zos d 0 n p0 g0 ls0.length m0
 obtain ⟨r0,hr0⟩:∃ r,r=ls0.length:=⟨_,rfl⟩
 rw[← hr0] at hB2 hbl hW2
 rw[← hr0]
 obtain ⟨SC,hSC⟩:∃ C,C=stC d 0 n p0 g0 r0 m0 false:=⟨_,rfl⟩
 obtain ⟨H0,hH0⟩:∃ C,C=hfC 0 n p0 g0 r0 m0:=⟨_,rfl⟩
 rw[← hSC] at hW2 hbl
 rw[← hH0] at hbl ⊢
 obtain ⟨HW2,HB2⟩:=zh2 hW2 hB2
 have HG2:=hide (tn gr1 g2)
 obtain ⟨HV2,HSF,HR0,HF0⟩:=zh4 hv2 hsF hr0 hf0
 have HM0:=hide (show w.heap.size≤m0∧m0<w1.heap.size from ⟨hm0,hv0.lt⟩)
 obtain ⟨HWL,HSC,HH0⟩:=zh3 hwl hSC hH0
 clear c1 hf0 hv0 hm0 gr1 hW2 hB2 g2 hwl hd2 hsF hv2 hr0 hSC hH0
 go_wp2_with (first
  | (refine zbf rfl 71 _ rfl SC.toArray ?hb ?_;(case hb=>exact Eq.trans (b:=Tryz.prog.built 71 [(0,.pointer (some ⟨d,0,none⟩)),(1,.agg H0.toArray)]) (by kernel_rfl) hbl))
  | (rw[← uh HW2])
  | (go_at_call 30;fail))
 refine c2.mono ?_
 rintro e w3 ⟨ls1,g1,p1,m1,rfl,hf1,hv1,hm1,gr3⟩
 obtain ⟨r1,hr1⟩:∃ r,r=ls1.length:=⟨_,rfl⟩
 obtain ⟨H1,hH1⟩:∃ C,C=hfC n n2 p1 g1 r1 m1:=⟨_,rfl⟩
 rw[← hr1,← hH1]
 obtain ⟨W4,hW4,hB4,g4⟩:=zbu w3 69 Y.toArray H1
 have hH1l:H1.length=6:=by rw[hH1];rfl
 have HHI:=hide (show (Tryz.prog.info? 69).map (·.size)=some H1.toArray.size by simp[hH1l,zau])
 have HHL:=hide (show (Tryz.prog.info? 69).map (·.size)=some H1.length by rw[hH1l];exact zau)
 have HHY:=hide (show Y.toArray.size=H1.toArray.size by simp[hH1l,uh HYL])
 have HHO:=hide (show H1.toArray.all (·.oneCell')=true by rw[hH1];exact all_oneCell_toArray (zcf _ _ _ _ _ _))
 have HW4:=hide hW4
 have hB24:=(uh HB2).kept (tn gr3 g4) (by simp)
 have HCG1:=hide (show W4.cell? ⟨w3.heap.size,3,none⟩=some (.int .u64 (g1:Int)) by rw[hB4.cell 3,hH1];rfl)
 have HCG0:=hide (show W4.cell? ⟨w1.heap.size,4,none⟩=some (.int .u64 (g0:Int)) by rw[hB24.cell 4];rfl)
 have HG4:=hide (tn (tn (uh HG2) gr3) g4)
 obtain ⟨HB24,HB4⟩:=zh2 hB24 hB4
 have HV14:=hide (hv1.nn g4)
 have HV04:=hide ((uh HV2).nn (tn gr3 g4))
 have HF1:=hide hf1
 have HM1:=hide (show W2.heap.size≤m1 from hm1)
 have HS2:=hide (show w1.heap.size<W2.heap.size from (uh HB2).lt)
 obtain ⟨HH1,HR1⟩:=zh2 hH1 hr1
 clear c2 hv1 hm1 gr3 hW4 hB4 g4 hB24 hf1 hH1 hH1l hr1
 have hgr:∀ V,W4.grownBy V (some w1.heap.size)→w.grownBy V none:=fun V gV=>zae (uh HG4) gV (fun y e=>by cases e;exact Or.inl (uh HWL))
 have HGR:=hide hgr
 clear hgr
 by_cases hgt:g0<g1
 ·have hgi:(g1:Int) > (g0:Int):=by omega
  have hg1p:(g1:Int) > 0:=by omega
  have HGT:=hide hgt
  have hgd:decide (g0<g1)=true:=decide_eq_true hgt
  clear hgt
  go_upto_region 10 with (refine wpList_store_row rfl 69 _ _ rfl w3.heap.size H1.toArray rfl rfl _ _ (heap_alloc_new _ _) (by simpa using uh HHI) (uh HHY) (uh HHO) ?_;rw[← uh HW4])
  refine wp_region_noPanic ?_
  refine wp_region_held_drew (S:=fun V=>W4.grownBy V none) (by kernel_rfl) (zaa (zac W4 none)) (fun _ => ?_)
  refine tq 0 33 (.fieldAddr 69 (.tmp 6) 3) ((.pointer (some ⟨w3.heap.size,3,none⟩))) (zaa (zac W4 none)) ?_
  refine tz 1 34 (.load 45 (.tmp 33)) ((.int .u64 (g1:Int))) (zaa (zac W4 none)) ?_ (y:=(Or.inl ⟨by rfl,fun V hV=>by (have hv1:=hV.cell (uh HCG1) (by simp);go_simp)⟩))
  refine tq 2 35 (.move (.tmp 5)) ((.pointer (some ⟨w1.heap.size,0,none⟩))) (zaa (zac W4 none)) ?_
  refine tq 3 36 (.nilCheck (.tmp 35)) ((.pointer (some ⟨w1.heap.size,0,none⟩))) (zaa (zac W4 none)) ?_
  (try simp only[pq])
  refine tq 4 37 (.fieldAddr 71 (.tmp 36) 1) ((.pointer (some ⟨w1.heap.size,1,none⟩))) (zaa (zac W4 none)) ?_
  refine tq 5 38 (.fieldAddr 69 (.tmp 37) 3) ((.pointer (some ⟨w1.heap.size,4,none⟩))) (zaa (zac W4 none)) ?_
  refine tz 6 39 (.load 45 (.tmp 38)) ((.int .u64 (g0:Int))) (zaa (zac W4 none)) ?_ (y:=(Or.inl ⟨by rfl,fun V hV=>by (have hv1:=hV.cell (uh HCG0) (by simp);go_simp)⟩))
  refine tq 7 40 (.binOp .gtr 45 (.tmp 34) (.tmp 39) 45) ((.bool true)) (zaa (zac W4 none)) ?_
  (try simp only[pq])
  refine wpAnyH_done (by kernel_rfl) ?_ _
  refine NoPanic.normal ?_
  obtain ⟨W5,hW5⟩:∃ W,W=W4.drew.setCells w1.heap.size 1 H1.toArray.toList:=⟨_,rfl⟩
  have hbd:=(uh HB24).kept (zaa (zac W4 none)) (by simp)
  have hb5:Blk W5 w1.heap.size 71 (stC d n n2 p1 g1 r1 m1 false):=by
   have:=Blk.setCells (A:=[.pointer (some ⟨d,0,none⟩)]) (C:=[.bool false]) H1.toArray.toList (hfC 0 n p0 g0 r0 m0) hbd (by rw[uh HH1];simp[hfC])
   rw[hW5]
   unfold stC
   rw[← uh HH1]
   simpa using this
  have g5:W4.grownBy W5 (some w1.heap.size):=by rw[hW5];exact za1 (Or.inr rfl) _ _ (zav (some w1.heap.size) (zaa (zac W4 none)))
  have hth:W4.drew.there w1.heap.size 1 H1.toArray.size:=by
   rw[show H1.toArray.size=6 by rw[uh HH1];simp[hfC]]
   exact hbd.there 1 6 (by simp[stC,hfC])
  have hrow:=zan ((uh HB4).kept (zaa (zac W4 none)) (by simp))
  have hc5:W5.cell? ⟨w1.heap.size,4,none⟩=some (.int .u64 (g1:Int)):=by rw[hb5.cell 4];rfl
  have hv5:VmW W5 m1 (w1.heap.size::F) (zal [] ls1.flatten):=(uh HV14).fr (Fr.of g5 (fun x e=>by cases e;exact Or.inl (List.mem_singleton.2 rfl))) (by have:=uh HM1;have:=uh HS2;simp;omega) (fun x hx=>by simp at hx;simp[hx])
  obtain ⟨HW5,HTH,HB5,HG5,HV5⟩:=zh5 hW5 hth hb5 g5 hv5
  clear hW5 hbd hb5 g5 hth hv5
  go_wp2_with (first
   | (refine wpList_load_mid rfl 69 _ rfl w3.heap.size 0 rfl H1 _ hrow Tryz.underlying69 rfl (uh HHL) ?_;clear hrow)
   | (refine wpList_store_mid rfl 69 _ _ rfl w1.heap.size 1 H1.toArray rfl rfl (uh HTH) (uh HHI) (uh HHO) ?_;rw[← uh HW5]))
  go_ret2
  have hlt:=uh HGT
  refine ⟨ls0,g0,p0,ls1,g1,p1,uh HF0,by rw[← uh HN2];exact uh HF1,fun _=>⟨w1.heap.size,m1,rfl,uh HGR _ (uh HG5),by rw[← uh HN2,← uh HR1];exact uh HB5,uh HV5,uh HWL,?_⟩,fun h1 _=>absurd hlt (by omega),fun h1 _=>absurd hlt (by omega)⟩
  have:=uh HM1
  have:=uh HS2
  have:=uh HWL
  omega
 ·have hgd:decide (g0<g1)=false:=decide_eq_false hgt
  have HGT:=hide hgt
  clear hgt
  by_cases hg0:0<g0
  ·have hg0d:decide (0<g0)=true:=decide_eq_true hg0
   have HG0:=hide hg0
   clear hg0
   have hc0:=(zaa (zac W4 none)).cell (uh HCG0) (by simp)
   go_upto_region 10 with (refine wpList_store_row rfl 69 _ _ rfl w3.heap.size H1.toArray rfl rfl _ _ (heap_alloc_new _ _) (by simpa using uh HHI) (uh HHY) (uh HHO) ?_;rw[← uh HW4])
   refine wp_region_noPanic ?_
   refine wp_region_held_drew (S:=fun V=>W4.grownBy V none) (by kernel_rfl) (zaa (zac W4 none)) (fun _ => ?_)
   refine tq 0 33 (.fieldAddr 69 (.tmp 6) 3) ((.pointer (some ⟨w3.heap.size,3,none⟩))) (zaa (zac W4 none)) ?_
   refine tz 1 34 (.load 45 (.tmp 33)) ((.int .u64 (g1:Int))) (zaa (zac W4 none)) ?_ (y:=(Or.inl ⟨by rfl,fun V hV=>by (have hv1:=hV.cell (uh HCG1) (by simp);go_simp)⟩))
   refine tq 2 35 (.move (.tmp 5)) ((.pointer (some ⟨w1.heap.size,0,none⟩))) (zaa (zac W4 none)) ?_
   refine tq 3 36 (.nilCheck (.tmp 35)) ((.pointer (some ⟨w1.heap.size,0,none⟩))) (zaa (zac W4 none)) ?_
   (try simp only[pq])
   refine tq 4 37 (.fieldAddr 71 (.tmp 36) 1) ((.pointer (some ⟨w1.heap.size,1,none⟩))) (zaa (zac W4 none)) ?_
   refine tq 5 38 (.fieldAddr 69 (.tmp 37) 3) ((.pointer (some ⟨w1.heap.size,4,none⟩))) (zaa (zac W4 none)) ?_
   refine tz 6 39 (.load 45 (.tmp 38)) ((.int .u64 (g0:Int))) (zaa (zac W4 none)) ?_ (y:=(Or.inl ⟨by rfl,fun V hV=>by (have hv1:=hV.cell (uh HCG0) (by simp);go_simp)⟩))
   refine tq 7 40 (.binOp .gtr 45 (.tmp 34) (.tmp 39) 45) ((.bool false)) (zaa (zac W4 none)) ?_
   (try simp only[pq])
   refine wpAnyH_done (by kernel_rfl) ?_ _
   refine NoPanic.normal ?_
   go_wp2
   go_ret2
   have hg9:=zaa (zac W4 none)
   refine ⟨ls0,g0,p0,ls1,g1,p1,uh HF0,by rw[← uh HN2];exact uh HF1,fun h1=>absurd h1 (uh HGT),fun _ _=>⟨w1.heap.size,m0,rfl,zaa (uh HG4),by rw[← uh HR0];exact (uh HB24).kept hg9 (by simp),(uh HV04).nn hg9,uh HWL,(uh HM0).1⟩,fun _ h1=>absurd (uh HG0) (by omega)⟩
  ·have hg0e:g0=0:=by omega
   have hg0d:decide (0<g0)=false:=decide_eq_false hg0
   have HG0:=hide hg0e
   clear hg0
   obtain ⟨W5,hW5⟩:∃ W,W=(W4.setCell ⟨w1.heap.size,4,none⟩ (.int .u64 1)).drew:=⟨_,rfl⟩
   obtain ⟨hl0,hp0⟩:ls0=[]∧p0=0:=by
    rcases uh HF0 with ⟨a1,_,a3,_⟩ | ⟨_,a2,_⟩
    ·exact ⟨a1,a3⟩
    ·omega
   have hr0:r0=0:=by rw[uh HR0,hl0];rfl
   have hb5:Blk W5 w1.heap.size 71 (stC d 0 n 0 1 0 m0 false):=by
    have h1:=(uh HB24).set 4 (.int .u64 1)
    rw[hp0,hr0] at h1
    rw[hW5]
    exact (show Blk (W4.setCell ⟨w1.heap.size,4,none⟩ (.int .u64 1)) w1.heap.size 71 (stC d 0 n 0 1 0 m0 false) from h1).kept (zaa (zac _ none)) (by simp)
   have g5:W4.grownBy W5 (some w1.heap.size):=by rw[hW5];exact zaa (zam (zac _ _) _ _ (Or.inr rfl))
   have hv5:VmW W5 m0 (w1.heap.size::F) []:=by
    have:=(uh HV04).fr (Fr.of g5 (fun x e=>by cases e;exact Or.inl (List.mem_singleton.2 rfl))) (by have:=(uh HM0).2;simp;omega) (fun x hx=>by simp at hx;simp[hx])
    rw[hl0] at this
    exact this
   have hgw:=uh HGR _ g5
   have hmF:m0∉F:=fun hx=>by have:=((uh HD).lo _ hx).2;have:=(uh HM0).1;omega
   have hus:=(uh HD).gb.size
   have hkn:=uh HKN
   have cw:=ze6 ((uh HD).nn hgw) (by rw[uh HUU];simp) ((uh HT).kept0 hgw) w1.heap.size 0 n 0 1 0 m0 false hb5 (uh HSF) (Nat.le_trans hus (uh HWL)) 0 n 0 1 0 m0 [] hv5 hmF (Nat.le_trans hus (uh HM0).1) none 0 ([]:List ChI) (CsG.empty _ _) zki (by show 0+2≤_;omega) (by decide)
   have hcz:W4.drew.cell? ⟨w1.heap.size,4,none⟩=some (.int .u64 (g0:Int)):=uh HCG0
   have hfz:=((uh HB24).kept (zaa (zac W4 none)) (by simp)).fz 4
   obtain ⟨H5,hH5⟩:∃ H,H=hfC 0 n 0 1 0 m0:=⟨_,rfl⟩
   have hrow:W5.rangeAt w1.heap.size 1 H5:=by rw[hH5];exact Blk.range (A:=[.pointer (some ⟨d,0,none⟩)]) (C:=[.bool false]) hb5
   rw[← hH5] at cw
   obtain ⟨X1,X2,hX⟩:∃ X1 X2,swD D 0 1 0 []=(X1,X2):=⟨_,_,rfl⟩
   rw[show (([]:List ChI).map ChI.chg)=[] from rfl,hX] at cw
   simp only at cw
   have HHL5:=hide (show (Tryz.prog.info? 69).map (·.size)=some H5.length by rw[hH5];simp[hfC,zau])
   obtain ⟨HW5,HGW,HX⟩:=zh3 hW5 hgw hX
   have HW5L:=hide (show w1.heap.size<W5.heap.size∧m0<W5.heap.size from ⟨hb5.lt,hv5.lt⟩)
   clear hg0e hW5 hl0 hp0 hr0 hb5 g5 hv5 hgw hmF hus hkn hH5 hX
   go_upto_region 10 with (refine wpList_store_row rfl 69 _ _ rfl w3.heap.size H1.toArray rfl rfl _ _ (heap_alloc_new _ _) (by simpa using uh HHI) (uh HHY) (uh HHO) ?_;rw[← uh HW4])
   refine wp_region_noPanic ?_
   refine wp_region_held_drew (S:=fun V=>W4.grownBy V none) (by kernel_rfl) (zaa (zac W4 none)) (fun _ => ?_)
   refine tq 0 33 (.fieldAddr 69 (.tmp 6) 3) ((.pointer (some ⟨w3.heap.size,3,none⟩))) (zaa (zac W4 none)) ?_
   refine tz 1 34 (.load 45 (.tmp 33)) ((.int .u64 (g1:Int))) (zaa (zac W4 none)) ?_ (y:=(Or.inl ⟨by rfl,fun V hV=>by (have hv1:=hV.cell (uh HCG1) (by simp);go_simp)⟩))
   refine tq 2 35 (.move (.tmp 5)) ((.pointer (some ⟨w1.heap.size,0,none⟩))) (zaa (zac W4 none)) ?_
   refine tq 3 36 (.nilCheck (.tmp 35)) ((.pointer (some ⟨w1.heap.size,0,none⟩))) (zaa (zac W4 none)) ?_
   (try simp only[pq])
   refine tq 4 37 (.fieldAddr 71 (.tmp 36) 1) ((.pointer (some ⟨w1.heap.size,1,none⟩))) (zaa (zac W4 none)) ?_
   refine tq 5 38 (.fieldAddr 69 (.tmp 37) 3) ((.pointer (some ⟨w1.heap.size,4,none⟩))) (zaa (zac W4 none)) ?_
   refine tz 6 39 (.load 45 (.tmp 38)) ((.int .u64 (g0:Int))) (zaa (zac W4 none)) ?_ (y:=(Or.inl ⟨by rfl,fun V hV=>by (have hv1:=hV.cell (uh HCG0) (by simp);go_simp)⟩))
   refine tq 7 40 (.binOp .gtr 45 (.tmp 34) (.tmp 39) 45) ((.bool false)) (zaa (zac W4 none)) ?_
   (try simp only[pq])
   refine wpAnyH_done (by kernel_rfl) ?_ _
   refine NoPanic.normal ?_
   go_wp2_with (first
    | (rw[← uh HW5])
    | (refine wpList_load_mid rfl 69 _ rfl w1.heap.size 1 rfl H5 _ hrow Tryz.underlying69 rfl (uh HHL5) ?_;clear hrow)
    | (go_at_call 31;fail))
   refine cw.mono ?_
   rintro e w6 ⟨rfl,F',hd6,hF6,fr6,hend⟩
   have hgs:=(uh HGW).size
   have hmm:=uh HM0
   have hFw:∀ y∈F',y∈F∨w.heap.size≤y:=fun y hy=>(hF6 y hy).imp id (fun e=>Nat.le_trans hgs e)
   have hfr:Fr w w6 F:=(Fr.none (uh HGW) F).trans fr6 (fun x hx=>by
    simp only[List.mem_cons] at hx
    rcases hx with rfl | rfl | hx
    ·exact Or.inr hmm.1
    ·exact Or.inr (uh HWL)
    ·exact Or.inl hx)
   have hsF' : w1.heap.size∉F':=fun hx=>by
    rcases hF6 _ hx with h1 | h1
    ·exact uh HSF h1
    ·have h2:=uh HW5L;omega
   have hmF' : m0∉F':=fun hx=>by
    rcases hF6 _ hx with h1 | h1
    ·have:=((uh HD).lo _ h1).2;omega
    ·have h2:=uh HW5L;omega
   obtain ⟨HD6,HFW,HFR⟩:=zh3 hd6 hFw hfr
   have HSF':=hide hsF'
   have HMF':=hide hmF'
   have HEND:=hide hend
   clear cw hd6 hF6 fr6 hend hFw hfr hsF' hmF' hgs hmm
   by_cases hx0:X2=0
   ·subst hx0
    obtain ⟨hb6,hv6⟩:=uh HEND rfl
    obtain ⟨HB6,HV6⟩:=zh2 hb6 hv6
    clear hb6 hv6
    go_wp2
    go_ret2
    refine ⟨ls0,g0,p0,ls1,g1,p1,uh HF0,by rw[← uh HN2];exact uh HF1,fun h1=>absurd h1 (uh HGT),fun _ h1=>absurd (uh HG0) (by omega),fun _ _ => ?_⟩
    rw[uh HX]
    exact ⟨F',uh HD6,uh HFW,uh HFR,fun e=>absurd rfl e,fun _=>⟨w1.heap.size,m0,rfl,uh HB6,uh HV6,uh HSF',uh HMF',uh HWL,(uh HM0).1⟩⟩
   ·have hx0b:(X2 == 0)=false:=beq_eq_false_iff_ne.2 hx0
    have HX0:=hide hx0
    clear hx0
    go_wp2
    go_ret2
    refine ⟨ls0,g0,p0,ls1,g1,p1,uh HF0,by rw[← uh HN2];exact uh HF1,fun h1=>absurd h1 (uh HGT),fun _ h1=>absurd (uh HG0) (by omega),fun _ _ => ?_⟩
    rw[uh HX]
    exact ⟨F',uh HD6,uh HFW,uh HFR,fun _=>rfl,fun e=>absurd e (uh HX0)⟩
end Go.Proofs.YtoilcpdhhlcidaaGreatDoor
