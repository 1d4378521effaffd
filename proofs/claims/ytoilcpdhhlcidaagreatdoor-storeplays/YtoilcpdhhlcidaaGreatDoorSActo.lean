/- Lemmas. -/
import Derived.Test.YtoilcpdhhlcidaaGreatDoorSpRh
import Derived.Test.YtoilcpdhhlcidaaGreatDoorSpR
import Derived.Test.YtoilcpdhhlcidaaGreatDoorRStB
namespace Go.Proofs.YtoilcpdhhlcidaaGreatDoor
open Go.RowKit
set_option maxRecDepth 100000
theorem VmW.look_at {w:World} {m:Nat} {G:List Nat} {V:List (List UInt8 × List UInt8)} (h:VmW w m G V) (k:List UInt8) (ok:Bool) :
  ∃ ao c x,(∀ W,w.grownBy W none→(Instr.lookup 67 (.map (some m)) (keyS k) ok).run Tryz.prog W = .ok (if ok then .tuple #[.slice ao x.length c,.bool (getK V k).isSome] else .slice ao x.length c) W)∧Bts w ao c x∧x=(getK V k).getD []∧∀ ad,ao=some ad→x≠[]→ad.block∉G:=by
 obtain ⟨h0,K,h1,h2,h3⟩:=h
 have hl:=fun (W:World) (g:w.grownBy W none)=>(h1.fr (Fr.none g []) (by simp)).look 67 53 Tryz.underlying67 (.slice none 0 0) (by kernel_rfl) k ok
 cases hg:getZ K k with
 | none =>
   have hk:k∉K.map (·.1):=fun hm=>by have:=(zd2 K k).2 hm;rw[hg] at this;cases this
   rw[hg] at hl
   refine ⟨none,0,[],fun W g => ?_,Bts.nil w,by rw[h3 k hk];rfl,fun _ e=>by cases e⟩
   rw[hl W g,h3 k hk];rfl
 | some v =>
   obtain ⟨ao,c,x,e,hb,hv,hgg⟩:=h2 _ (zks hg)
   simp only at e hv
   rw[hg] at hl
   refine ⟨ao,c,x,fun W g => ?_,hb,by rw[hv];rfl,hgg⟩
   rw[hl W g,hv,e];rfl
theorem zj4:∀ {V:List (List UInt8 × List UInt8)},RisK V→∀ (i:Nat) (h:i<V.length),getK V (V[i]).1=some (V[i]).2
 | (a,x)::V,hr,0,_=>by simp[getK]
 | (a,x)::V,hr,i+1,h=>by
   have h1:i<V.length:=by simpa using h
   have:=hr.cons.1 V[i] (List.getElem_mem h1)
   simp only[List.getElem_cons_succ,getK]
   rw[if_neg (zdr this)]
   exact zj4 hr.cons.2 i h1
theorem zmm (a:ByteArray) (bo:Option Addr) (n c:Nat):Tryz.prog.built 55 [(0,.string a),(1,.slice bo n c)]=some #[.string a,.slice bo n c,.bool false]:=by kernel_rfl
theorem ze5 {w:World} {ops:Array Oper} {rest:List Oper} {o:Oper} {a:Act} {Q:Exit→Act→World→Prop} (hgd:o.guard=none) (s x:Operand)
  (ho:o.op = .call { callee := .builtin .append,args := #[s,x],argTypes := #[34,34] })
  (base:Nat) (v:Value) (L M:List ChI) (hs:a.eval s=v) (hown:w.ownsRow base 55 3 v L.length (L.flatMap ciC)) (xo:Option Addr) (m c:Nat) (hx:a.eval x = .slice xo m c) (hm:m=M.length) (hM:Rws w 3 ciC xo c M)
  (hn:L.length+M.length≤2000000) (hbase:base≤w.heap.size)
  (h:∀ v' w',w'.ownsRow base 55 3 v' (L++M).length ((L++M).flatMap ciC)→w.grownBy w' v.ownBlock→wpList Tryz.prog ops Q rest (a.put o.dst v') w'):wpList Tryz.prog ops Q (o::rest) a w:=by
 obtain ⟨i0,hi,hz0,hz1,hz2⟩:=info_parts zjc
 exact wpList_plain hgd fun _ hK=>zb8 s x 34 55 ho i0 _ 3 48 Tryz.underlying34 hi hz0 hz1 hz2 rfl (by decide) ciC zk7 base v L M (fun _ _=>rfl) hs hown xo m c hx hm hM (by omega) (by omega) hbase
  (fun v' w' q1 q2=>hK _ _ (h v' w' q1 q2))
theorem zh8:∀ (V:List (List UInt8 × List UInt8)) (k v:List UInt8),(putK V k v).length≤V.length+1
 | [],_,_=>Nat.le_refl _
 | (a,x)::V,k,v=>by
   have:=zh8 V k v
   unfold putK
   split
   ·simp
   ·split
    ·simp
    ·simp only[List.length_cons]
     omega
structure WiI (w:World) (G:List Nat) (v:Value) (A:List ChI) (W:World):Prop where
 row:W.ownsRow w.heap.size 55 3 v A.length (A.flatMap ciC)
 val:∀ x∈A,Bts W x.bo x.bc x.val∧∀ ad,x.bo=some ad→x.val≠[]→ad.block∉G∧ad.block<w.heap.size
 gb:w.grownBy W none
theorem WiI.app {w W W' : World} {G:List Nat} {v v' : Value} {A:List ChI} {x:ChI} (h:WiI w G v A W) (hx:Bts w x.bo x.bc x.val) (hg:∀ ad,x.bo=some ad→x.val≠[]→ad.block∉G) {W1:World} (g1:W.grownBy W1 none)
  (ho:W'.ownsRow w.heap.size 55 3 v' (A++[x]).length ((A++[x]).flatMap ciC)) (g:W1.grownBy W' v.ownBlock):WiI w G v' (A++[x]) W':=by
 have hlt:∀ y,v.ownBlock=some y→w.heap.size≤y:=fun y hy=>(h.row.lt y hy).1
 have key:∀ z:ChI,Bts W1 z.bo z.bc z.val→(∀ ad,z.bo=some ad→z.val≠[]→ad.block∉G∧ad.block<w.heap.size)→Bts W' z.bo z.bc z.val:=fun z hb hlz =>
  (Fr.of g (F:=v.ownBlock.toList) (fun y hy=>Or.inl (by rw[hy];simp))).bts0 hb (fun ad e hl hm=>by
   have h1:=(hlz ad e hl).2
   have h2:=hlt ad.block (by simpa using hm)
   omega)
 refine ⟨ho,fun z hz => ?_,zae (tn h.gb g1) g (fun y hy=>Or.inl (hlt y hy))⟩
 rcases List.mem_append.1 hz with hz | hz
 ·exact ⟨key z ((h.val z hz).1.kept g1 (fun _ e=>by cases e)) (h.val z hz).2,(h.val z hz).2⟩
 ·rw[List.mem_singleton.1 hz]
  have h2:∀ ad,x.bo=some ad→x.val≠[]→ad.block∉G∧ad.block<w.heap.size:=fun ad e hl=>⟨hg ad e hl,hx.lt ad e hl⟩
  exact ⟨key x (hx.kept (tn h.gb g1) (fun _ e=>by cases e)) h2,h2⟩
set_option maxHeartbeats 4000000 in
theorem zqe (w:World) (b o m:Nat) (G:List Nat) (V:List (List UInt8 × List UInt8)) (h5:w.cell? ⟨b,o+5,none⟩=some (.map (some m))) (hv:VmW w m G V) (hG:∀ x∈G,x<w.heap.size) (ao:Option Addr) (ac:Nat) (L:List ChI) (hc:CsI w ao ac L) (hm:MayC (L.map ChI.chg))
  (hk:∀ y∈V,1≤y.1.length∧y.1.length≤96∧y.2.length≤65536) (hV:V.length≤100000) :
  Calls Tryz.prog 64 #[.pointer (some ⟨b,o,none⟩),.slice ao L.length ac] w fun r w'=>∃ (A:List ChI) (lo:Option Addr) (lc:Nat),r = .returned (.slice lo A.length lc)∧CsG w' lo lc A G∧A.map ChI.chg=allC (zal V (L.map ChI.chg))∧w.grownBy w' none:=by
 obtain ⟨es,clk,hes,hvc⟩:=hv.clone
 have cc:=zl2 w m es clk hes
 obtain ⟨W1,hW1⟩:∃ W,W=w.alloc (.map es clk):=⟨_,rfl⟩
 rw[← hW1] at cc hvc
 have g1:w.grownBy W1 none:=by rw[hW1];exact zaf (zac _ _) _
 obtain ⟨m2,hm2⟩:∃ m,m=w.heap.size:=⟨_,rfl⟩
 rw[← hm2] at cc hvc
 have hLl:=hm.1
 rw[List.length_map] at hLl
 have hkl:∀ x∈L,x.key.length≤100000∧x.val.length≤1000000:=fun x hx=>by
  have:=hm.2 x.chg (List.mem_map.2 ⟨x,hx,rfl⟩)
  have h1:x.key.length≤96:=this.key2
  have h2:x.val.length≤65536:=this.val
  omega
 have hcg:CsG W1 ao ac L [m2]:=(CsG.more (G:=[]) ⟨hc,fun _ _ _=>by simp,fun _ _ _ _ _=>by simp⟩ (fun x hx=>Or.inr (by simp at hx;omega))).nn g1
 have ch:=zhh W1 m2 G V hvc ao ac L hcg (by omega) hkl (fun x hx=>Nat.lt_of_lt_of_le (hG x hx) g1.size)
 obtain ⟨V2,hV2⟩:∃ V2,V2=zal V (L.map ChI.chg):=⟨_,rfl⟩
 rw[← hV2] at ch ⊢
 have hr0:RisK V:=hv.1
 have hr2:RisK V2:=by rw[hV2];exact zbw _ hr0
 have hk2:∀ y∈V2,1≤y.1.length∧y.1.length≤96∧y.2.length≤65536:=by rw[hV2];exact zcc _ hm.2 hk
 have hl2:V2.length≤200000:=by
  have:∀ (l:List Chg) (V:List (List UInt8 × List UInt8)),(zal V l).length≤V.length+l.length:=by
   intro l
   induction l with
   | nil=>intro V;simp[zal]
   | cons c l ih =>
     intro V
     have h1:=ih (zbr V c)
     have h2:(zbr V c).length≤V.length+1:=by
      unfold zbr
      split
      ·have:=List.length_filter_le (fun x:List UInt8 × List UInt8=>x.1 != c.key) V
       unfold delK
       omega
      ·exact zh8 _ _ _
     show (zal (zbr V c) l).length≤_
     rw[List.length_cons]
     omega
  have:=this (L.map ChI.chg) V
  rw[List.length_map] at this
  rw[hV2]
  omega
 have hgw:w.heap.size≤W1.heap.size:=g1.size
 obtain ⟨nl,hnl⟩:∃ n,n=L.length:=⟨_,rfl⟩
 rw[← hnl] at ch ⊢
 have hc5:=h5
 obtain ⟨HW1,HG1,HM2,HK2,HL2,HR2⟩:=zh6 hW1 g1 hm2 hk2 hl2 hr2
 have HGG:=hide hG
 clear h5 hv hG hc hm hk hV hes hvc hW1 g1 hm2 hLl hkl hcg hV2 hr0 hr2 hk2 hl2 hgw hnl
 go_enter Tryz.func64,Tryz.ntmps64
 go_wp2_with (first
  | (go_at_call 85;refine cc.mono ?_;rintro r w1 ⟨rfl,hw1⟩;have hw2:=hw1.symm;clear hw1;subst hw2;clear cc)
  | (go_at_call 76;fail))
 refine ch.mono ?_
 rintro r w2 ⟨rfl,hv2,fr2⟩
 have hb2:w.grownBy w2 none:=((Fr.none (uh HG1) []).trans fr2 (fun x hx=>Or.inr (by simp at hx;have:=uh HM2;omega))).gb (fun x hx=>by cases hx)
 have cr:=zhi w2 m2 G V2 hv2 (fun y hy=>by have:=uh HK2 y hy;omega) (by have:=uh HL2;omega)
 obtain ⟨HB2,HV2⟩:=zh2 hb2 hv2
 clear ch hv2 fr2 hb2
 go_wp2_with (go_at_call 41;fail)
 refine cr.mono ?_
 rintro r w3 ⟨ko,kc,rfl,hcel,hfr,g3⟩
 obtain ⟨n,hn⟩:∃ n,n=V2.length:=⟨_,rfl⟩
 rw[← hn]
 have HC3:=hide hcel
 have HV3:=hide ((uh HV2).nn g3)
 have HB3:=hide (tn (uh HB2) g3)
 have HN:=hide hn
 have hi0:WiI w3 G (.slice none 0 0) [] w3:=⟨World.ownsRow_nil _ _ _ _,(fun _ h=>by cases h),zac _ _⟩
 have HI0:=hide hi0
 clear cr hcel hfr g3 hn hi0
 go_wp2
 go_loopw [20,6] (fun i v wr=>∃ (j:Nat),i = .int .i64 j∧j≤n∧Hid (∃ A,WiI w3 G v A wr∧A.map ChI.chg=allC (V2.take j))) (fun i _ _=>n - (intOf i).toNat)
 case atStart=>exact ⟨0,rfl,Nat.zero_le _,[],uh HI0,rfl⟩
 case round =>
  clear HI0
  obtain ⟨j,rfl,hj,HI⟩:=hrel
  obtain ⟨A,hI,hA⟩:=uh HI
  by_cases hlt:j<n
  ·have hjl:j<V2.length:=by rw[← uh HN];exact hlt
   obtain ⟨kb,ko',hko,hkc⟩:=(uh HC3).at j (by simpa[kyC] using hjl)
   subst hko
   obtain ⟨a,ha⟩:∃ a,a=(V2[j]).1:=⟨_,rfl⟩
   have hke:(kyC V2)[j]'(by simpa[kyC] using hjl) = .string (str a):=by simp[kyC,ha]
   rw[hke] at hkc
   have hkc2:=hI.gb.cell hkc (by simp)
   obtain ⟨vo,vc,x,hlk,hbx,hxe,hxg⟩:=(uh HV3).look_at a false
   have hxv:x=(V2[j]).2:=by rw[hxe,ha,zj4 (uh HR2) j hjl];rfl
   obtain ⟨TK,hTK⟩:∃ T,T=str a:=⟨_,rfl⟩
   rw[← hTK] at hkc2
   obtain ⟨nx,hnx⟩:∃ n,n=x.length:=⟨_,rfl⟩
   have hlk2:∀ W,w3.grownBy W none→(Instr.lookup 67 (.map (some m2)) (.string TK) false).run Tryz.prog W = .ok (.slice vo nx vc) W:=fun W gW=>by
    have:=hlk W gW
    rw[hTK,hnx]
    exact this
   have hlk3:=hlk2 wr hI.gb
   have hji:(j:Int)<(n:Int):=by omega
   have hjw:IntKind.i64.wrap ((j:Int)+1)=(j:Int)+1:=by rw[IntKind.wrap_i64];have:=uh HL2;have:=uh HN;omega
   have HJ:=hide (show j+1≤200000 by have:=uh HL2;have:=uh HN;omega)
   obtain ⟨HIA,HAA⟩:=zh2 hI hA
   have hAl:A.length=j:=by have:=congrArg List.length hA;simp[allC] at this;omega
   obtain ⟨HAL,HTK,HNX,HBX,HXG⟩:=zh5 hAl hTK hnx hbx hxg
   have htk:V2.take (j+1)=V2.take j++[V2[j]]:=List.take_succ_eq_append_getElem hjl
   have HE:=hide (show (A++[(⟨a,vo,vc,x,false⟩:ChI)]).map ChI.chg=allC (V2.take (j+1)) by
    rw[htk,List.map_append,hA]
    unfold allC
    rw[List.map_append]
    simp[ChI.chg,ha,hxv])
   obtain ⟨W8,hW8,hB8,g8⟩:=zah wr 55 [.string TK,.slice vo nx vc,.bool false]
   have eci:ciC ⟨a,vo,vc,x,false⟩=[.string TK,.slice vo nx vc,.bool false]:=by rw[hTK,hnx];rfl
   have HW8:=hide (show W8=wr.alloc (.cells #[.string TK,.slice vo nx vc,.bool false] 55) from hW8)
   have HX8:=hide (show Rws W8 3 ciC (some ⟨wr.heap.size,0,none⟩) 1 [⟨a,vo,vc,x,false⟩] from zjy (by rw[eci];exact hB8))
   have HG8:=hide g8
   have HO8:=hide (hI.row.kept g8 (by cases Value.ownBlock u6 <;> simp))
   have HS8:=hide (tn hI.gb g8).size
   clear hkc hlk hlk2 hbx hxe hxg hxv hTK hnx hI hA hAl htk hjl hke ha hW8 hB8 g8 eci HI
   go_wp2_with (first
    | (refine zbf rfl 55 _ rfl #[.string TK,.slice vo nx vc,.bool false] ?hb ?_;(case hb=>exact Eq.trans (b:=Tryz.prog.built 55 [(0,.string TK),(1,.slice vo nx vc)]) (by kernel_rfl) (zmm _ _ _ _)))
    | (rw[← uh HW8])
    | (refine ze5 rfl _ _ rfl w3.heap.size u6 A [⟨a,vo,vc,x,false⟩] rfl (uh HO8) (some ⟨wr.heap.size,0,none⟩) 1 1 rfl rfl (uh HX8) (by have:=uh HAL;have:=uh HJ;simp;omega) (uh HS8) ?_;intro v9 w9 ho9 g9;have HI9:=hide ((uh HIA).app (uh HBX) (uh HXG) (uh HG8) ho9 g9);clear ho9 g9))
   go_roundw
   case rel=>exact ⟨j+1,by go_num,by omega,_,uh HI9,uh HE⟩
   case measure=>simp[intOf];omega
  ·have hjn:j=n:=by omega
   have hji:¬ (j:Int)<(n:Int):=by omega
   have hAl:V2.take j=V2:=List.take_of_length_le (by rw[hjn,uh HN];exact Nat.le_refl _)
   rw[hAl] at hA
   obtain ⟨lo,lc,hv6,hrw⟩:=Rws.own ciC hI.row (fun _ _=>rfl)
   subst hv6
   obtain ⟨HIA,HAA,HRW⟩:=zh3 hI hA hrw
   clear hI hA hAl hrw HI hjn
   go_wp2
   go_ret
   refine ⟨A,lo,lc,rfl,⟨⟨(uh HRW).1,fun x hx=>((uh HIA).val x hx).1⟩,fun ad e hl hf => ?_,fun x hx ad e hl=>(((uh HIA).val x hx).2 ad e hl).1⟩,uh HAA,tn (uh HB3) (uh HIA).gb⟩
   have h1:=(uh HRW).2 ad e
   have h2:=uh HGG _ hf
   have h3:=(uh HB3).size
   omega
def stC (d f e p g r m:Nat) (st:Bool):List Value:=[.pointer (some ⟨d,0,none⟩)]++(hfC f e p g r m++[.bool st])
def swD (D:Dsk) (p g r:Nat) (l:List Chg):Dsk × Int:=ze2 D p (za8 (zbq shaL g r (recB l))) ((List.range (secN (recB l).length)).map (secB (recB l)))
set_option maxHeartbeats 4000000 in
theorem ze6 {u w:World} {F:List Nat} {d:Nat} {D:Dsk} (h:Dw u w F d D) (hU:D.U.length≤1000) (hT:Tabs w) (s f e p g r m:Nat) (st:Bool) (hb:Blk w s 71 (stC d f e p g r m st)) (hs:s∉F) (hus:u.heap.size≤s)
  (f2 e2 p2 g2 r2 m2:Nat) (V2:List (List UInt8 × List UInt8)) (hv:VmW w m2 (s::F) V2) (hm2:m2∉F) (hum:u.heap.size≤m2) (ao:Option Addr) (ac:Nat) (L:List ChI) (hc:CsG w ao ac L (m2::s::F)) (hm:MayC (L.map ChI.chg)) (hp:p2+zbc (L.map ChI.chg)≤D.safe.length) (hr:r2+1<18446744073709551616) :
  Calls Tryz.prog 31 #[.pointer (some ⟨s,0,none⟩),.agg (hfC f2 e2 p2 g2 r2 m2).toArray,.slice ao L.length ac] w fun x w'=>x = .returned (.int .i64 (swD D p2 g2 r2 (L.map ChI.chg)).2)∧∃ F',Dw u w' F' d (swD D p2 g2 r2 (L.map ChI.chg)).1∧(∀ y∈F',y∈F∨w.heap.size≤y)∧Fr w w' (m2::s::F) ∧
   ((swD D p2 g2 r2 (L.map ChI.chg)).2=0→Blk w' s 71 (stC d f2 e2 (p2+zbc (L.map ChI.chg)) g2 (r2+1) m2 st)∧VmW w' m2 (s::F') (zal V2 (L.map ChI.chg))):=by
 obtain ⟨H0,hH0⟩:∃ H,H=hfC f2 e2 p2 g2 r2 m2:=⟨_,rfl⟩
 rw[← hH0]
 obtain ⟨W1,hW1,hB1,g1⟩:=zah w 69 H0
 have hmost:=h.at_.ok.most
 obtain ⟨T,hT2⟩:∃ T,T=recB (L.map ChI.chg):=⟨_,rfl⟩
 obtain ⟨nt,hnt⟩:∃ n,n=T.length:=⟨_,rfl⟩
 have hnt2:2≤nt∧nt≤522240:=by
  have h1:1+secN nt≤2048:=by rw[hnt,hT2];exact Nat.le_trans (by show zbc (L.map ChI.chg)≤_;omega) hmost
  have h2:2≤T.length:=by rw[hT2];unfold recB;rw[List.length_append,zaw];omega
  unfold secN at h1
  omega
 have hTN:T≠[]:=fun e=>by rw[e] at hnt;simp at hnt;omega
 obtain ⟨Zr,hZr⟩:∃ Z:List Value,Z=rcC 0 0 0 (List.replicate 32 0) (.slice none 0 0):=⟨_,rfl⟩
 have hzr:=zfr
 rw[← hZr] at hzr
 have HZL:=hide (show Zr.length=36 by rw[hZr];exact zbn (by simp))
 obtain ⟨nL,hnL⟩:∃ n,n=L.length:=⟨_,rfl⟩
 have hld:∀ V,W1.grownBy V none→Calls Tryz.prog 58 #[.slice ao nL ac] V fun e w'=>∃ bo bc,e = .returned (.slice bo nt bc)∧Bts w' bo bc T∧(∀ ad,bo=some ad→V.heap.size≤ad.block)∧V.grownBy w' none:=fun V gV=>by
  have:=zk3 V ao ac L (hc.is.kept (tn g1 gV)) hm
  rw[← hT2,← hnt,← hnL] at this
  exact this
 have hnr:∀ V bo bc,W1.grownBy V none→Bts V bo bc T→Calls Tryz.prog 57 #[.int .u64 (g2:Int),.int .u64 (r2:Int),.slice bo nt bc] V fun e w'=>e = .returned (.agg (rcC g2 r2 nt (shaL T) (.slice bo nt bc)).toArray)∧V.grownBy w' none:=fun V bo bc gV hb=>by
  have:=zg3 V g2 r2 bo bc T hb (hT.kept0 (tn g1 gV)) (by omega)
  rw[← hnt] at this
  exact this
 rw[← hnL]
 have hc3:W1.cell? ⟨w.heap.size,3,none⟩=some (.int .u64 (g2:Int)):=by rw[hB1.cell 3,hH0];rfl
 have hc4:W1.cell? ⟨w.heap.size,4,none⟩=some (.int .u64 (r2:Int)):=by rw[hB1.cell 4,hH0];rfl
 obtain ⟨HLD,HNR,HC3,HC4,HTN,HW1⟩:=zh6 hld hnr hc3 hc4 hTN hW1
 have HD:=hide (h.nn g1)
 obtain ⟨HUU,HB1,HH0⟩:=zh3 hU hB1 hH0
 have HBS:=hide (hb.kept g1 (by simp))
 have HSF:=hide hs
 have HVM:=hide (hv.nn g1)
 obtain ⟨HVW,HCW⟩:=zh2 hv hc
 have HML:=hide (show u.heap.size≤m2∧m2<w.heap.size from ⟨hum,hv.lt⟩)
 have HSL:=hide (show s<w.heap.size from hb.lt)
 have HUS:=hide hus
 have HUW:=hide h.gb.size
 have HMF:=hide hm2
 have HCG:=hide (hc.nn g1)
 obtain ⟨HMC,HPP,HRR,HNT,HNT2,HT2⟩:=zh6 hm hp hr hnt hnt2 hT2
 obtain ⟨HMOST,HG1,HNL⟩:=zh3 hmost g1 hnL
 have HFW:=hide (h.lo)
 clear hld hnr hc3 hc4 hTN hW1 h hU hT hB1 hH0 hb hs hus hv hm2 hum hc hm hp hr hnt hnt2 hT2 hmost g1 hZr hnL
 go_enter Tryz.func31,Tryz.ntmps31
 go_upto_region 1 with (rw[← uh HW1])
 go_cut [7] (fun x9 wx=>∃ (q:Nat) (bo:Option Addr) (bc:Nat),x9 = .pointer (some ⟨q,0,none⟩)∧W1.heap.size≤q∧Blk wx q 106 (rcC g2 r2 nt (shaL T) (.slice bo nt bc))∧Bts wx bo bc T∧(∀ ad,bo=some ad→W1.heap.size≤ad.block)∧W1.grownBy wx none)
 case first =>
  have h0:W1.grownBy W1.drew none:=zaa (zac W1 none)
  refine wp_region_noPanic ?_
  refine wp_region_held_drew (S:=fun V=>W1.grownBy V none) (by kernel_rfl) h0 (fun _ => ?_)
  refine tq 0 9 (.fieldAddr 69 (.tmp 4) 3) ((.pointer (some ⟨w.heap.size,3,none⟩))) h0 ?_
  refine tz 1 10 (.load 45 (.tmp 9)) ((.int .u64 (g2:Int))) h0 ?_ (y:=(Or.inl ⟨by rfl,fun V hV=>by (have hv1:=hV.cell (uh HC3) (by simp);go_simp)⟩))
  refine tq 2 11 (.fieldAddr 69 (.tmp 4) 4) ((.pointer (some ⟨w.heap.size,4,none⟩))) h0 ?_
  refine tz 3 12 (.load 45 (.tmp 11)) ((.int .u64 (r2:Int))) h0 ?_ (y:=(Or.inl ⟨by rfl,fun V hV=>by (have hv1:=hV.cell (uh HC4) (by simp);go_simp)⟩))
  (try simp only[pq])
  refine tq 4 13 (.move (.tmp 2)) ((.slice ao nL ac)) h0 ?_
  (try simp only[pq])
  refine wpAnyH_ready (rs:=[5,7]) (by kernel_rfl) (by simp) ?_
  refine AllReadyH.cons (o:=⟨some 14,.call { callee := .value (.func 58),args := #[(.tmp 13)],argTypes := #[34] },_,_,_,_⟩) rfl (fun K9 hK9 => ?_) (AllReadyH.cons (o:=⟨some 7,.alloc 106,_,_,_,_⟩) rfl (fun K9 hK9 => ?_) AllReadyH.nil)
  ·go_simp
   go_at_call 58
   refine (uh HLD _ h0).mono ?_
   rintro e wl ⟨bo,bc,rfl,hbl,hfl,gl⟩
   have HGL:=hide (tn h0 gl)
   have HBT:=hide hbl
   have HFL:=hide (show ∀ ad,bo=some ad→W1.heap.size≤ad.block from fun ad e=>Nat.le_trans h0.size (hfl ad e))
   clear hbl hfl gl
   go_wp2_with fail
   refine hK9.out _ _ (uh HGL) (fun _ => ?_)
   clear hK9 K9
   (try simp only[pq])
   refine wpAnyH_ready (rs:=[6,7]) (by kernel_rfl) (by simp) ?_
   refine AllReadyH.cons (o:=⟨some 15,.call { callee := .value (.func 57),args := #[(.tmp 10),(.tmp 12),(.tmp 14)],argTypes := #[45,45,53] },_,_,_,_⟩) rfl (fun K9 hK9 => ?_) (AllReadyH.cons (o:=⟨some 7,.alloc 106,_,_,_,_⟩) rfl (fun K9 hK9 => ?_) AllReadyH.nil)
   ·go_simp
    go_at_call 57
    refine (uh HNR _ bo bc (uh HGL) (uh HBT)).mono ?_
    rintro e wn ⟨rfl,gn⟩
    have HGN:=hide (tn (uh HGL) gn)
    have HBU:=hide ((uh HBT).kept gn (fun _ e=>by cases e))
    have HLW:=hide gn.size
    clear gn
    go_wp2_with fail
    refine hK9.out _ _ (uh HGN) (fun _ => ?_)
    clear hK9 K9
    (try simp only[pq])
    refine rdq 7 (some 7) (.alloc 106) (fun K9 hK9 => ?_)
    go_simp
    refine hK9.out _ _ (zaf (uh HGN) _) (fun _ => ?_)
    clear hK9 K9
    (try simp only[pq])
    obtain ⟨Wa,hWa,hBa,gA⟩:=zah wn 106 Zr
    rw[← show Wa=wn.alloc (.cells Zr.toArray 106) from hWa]
    have HPA:=hide (show W1.heap.size≤wn.heap.size from (uh HGN).size)
    have hga:W1.grownBy Wa none:=tn (uh HGN) gA
    have HOF:=hide (show Off bo wn.heap.size from fun ad e e2=>by have h8:=(uh HBU).lt ad e (uh HTN);omega)
    have HBV:=hide ((uh HBU).kept gA (fun _ e=>by cases e))
    clear hWa gA
    refine rdq 8 none (.store 106 (.tmp 7) (.tmp 15)) (fun K9 hK9 => ?_)
    rw[if_pos (by rfl)]
    refine wp_store_row _ _ _ rfl (wn.heap.size) (rcC g2 r2 nt (shaL T) (.slice bo nt bc)).toArray rfl rfl _ _ hBa (by simp[zbn (zbp T),zbj]) (by simp[zbn (zbp T),uh HZL]) (all_oneCell_toArray (zdm _ _ _ _ rfl)) ?_
    refine hK9.out _ _ (zaj hga _ (Or.inl (uh HPA))) (fun _ => ?_)
    clear hK9 K9
    (try simp only[Act.put])
    refine wpAnyH_done (by kernel_rfl) ?_ _
    refine NoPanic.normal ?_
    have HFB:=hide (hBa.row (rcC g2 r2 nt (shaL T) (.slice bo nt bc)))
    have HFT:=hide ((uh HBV).kept (zaj (zac _ (some (wn.heap.size))) (rcC g2 r2 nt (shaL T) (.slice bo nt bc)).toArray (Or.inr rfl)) (fun y e=>by cases e;exact uh HOF))
    have HFG:=hide (zaj hga (rcC g2 r2 nt (shaL T) (.slice bo nt bc)).toArray (Or.inl (uh HPA)))
    go_wp2
    go_meet
    case rel=>exact ⟨_,bo,bc,rfl,uh HPA,uh HFB,uh HFT,uh HFL,uh HFG⟩
   ·go_simp
    refine hK9.out _ _ (zaf (uh HGL) _) (fun _ => ?_)
    clear hK9 K9
    (try simp only[pq])
    obtain ⟨Wa,hWa,hBa,gA⟩:=zah wl 106 Zr
    rw[← show Wa=wl.alloc (.cells Zr.toArray 106) from hWa]
    have HPA:=hide (show W1.heap.size≤wl.heap.size from (uh HGL).size)
    have hga:W1.grownBy Wa none:=tn (uh HGL) gA
    have HOF:=hide (show Off bo wl.heap.size from fun ad e e2=>by have h8:=(uh HBT).lt ad e (uh HTN);omega)
    have HBV:=hide ((uh HBT).kept gA (fun _ e=>by cases e))
    clear hWa gA
    refine rdq 6 (some 15) (.call { callee := .value (.func 57),args := #[(.tmp 10),(.tmp 12),(.tmp 14)],argTypes := #[45,45,53] }) (fun K9 hK9 => ?_)
    go_simp
    go_at_call 57
    refine (uh HNR _ bo bc hga (uh HBV)).mono ?_
    rintro e wn ⟨rfl,gn⟩
    have HGN:=hide (tn hga gn)
    have HBU:=hide ((uh HBV).kept gn (fun _ e=>by cases e))
    have HBC:=hide (hBa.kept gn (by simp))
    have HLW:=hide gn.size
    clear gn
    go_wp2_with fail
    refine hK9.out _ _ (uh HGN) (fun _ => ?_)
    clear hK9 K9
    (try simp only[pq])
    refine rdq 8 none (.store 106 (.tmp 7) (.tmp 15)) (fun K9 hK9 => ?_)
    rw[if_pos (by rfl)]
    refine wp_store_row _ _ _ rfl (wl.heap.size) (rcC g2 r2 nt (shaL T) (.slice bo nt bc)).toArray rfl rfl _ _ (uh HBC) (by simp[zbn (zbp T),zbj]) (by simp[zbn (zbp T),uh HZL]) (all_oneCell_toArray (zdm _ _ _ _ rfl)) ?_
    refine hK9.out _ _ (zaj (uh HGN) _ (Or.inl (uh HPA))) (fun _ => ?_)
    clear hK9 K9
    (try simp only[Act.put])
    refine wpAnyH_done (by kernel_rfl) ?_ _
    refine NoPanic.normal ?_
    have HFB:=hide ((uh HBC).row (rcC g2 r2 nt (shaL T) (.slice bo nt bc)))
    have HFT:=hide ((uh HBU).kept (zaj (zac _ (some (wl.heap.size))) (rcC g2 r2 nt (shaL T) (.slice bo nt bc)).toArray (Or.inr rfl)) (fun y e=>by cases e;exact uh HOF))
    have HFG:=hide (zaj (uh HGN) (rcC g2 r2 nt (shaL T) (.slice bo nt bc)).toArray (Or.inl (uh HPA)))
    go_wp2
    go_meet
    case rel=>exact ⟨_,bo,bc,rfl,uh HPA,uh HFB,uh HFT,uh HFL,uh HFG⟩
  ·go_simp
   refine hK9.out _ _ (zaf h0 _) (fun _ => ?_)
   clear hK9 K9
   (try simp only[pq])
   obtain ⟨Wb,hWb,hBb,gB⟩:=zah W1 106 Zr
   rw[← show Wb=W1.alloc (.cells Zr.toArray 106) from hWb]
   obtain ⟨Wa,hWa⟩:∃ W,W=Wb.drew:=⟨_,rfl⟩
   rw[← hWa]
   have hBa:Blk Wa W1.heap.size 106 Zr:=by rw[hWa];exact hBb.kept (zaa (zac Wb none)) (by simp)
   have hga:W1.grownBy Wa none:=by rw[hWa];exact zaa gB
   have HPA:=hide (Nat.le_refl W1.heap.size)
   clear hWa hWb hBb gB
   refine rdq 5 (some 14) (.call { callee := .value (.func 58),args := #[(.tmp 13)],argTypes := #[34] }) (fun K9 hK9 => ?_)
   go_simp
   go_at_call 58
   refine (uh HLD _ hga).mono ?_
   rintro e wl ⟨bo,bc,rfl,hbl,hfl,gl⟩
   have HGL:=hide (tn hga gl)
   have HBT:=hide hbl
   have HFL:=hide (show ∀ ad,bo=some ad→W1.heap.size≤ad.block from fun ad e=>Nat.le_trans hga.size (hfl ad e))
   have HOF:=hide (show Off bo W1.heap.size from fun ad e e2=>by have h8:=hfl ad e;have h9:=hBa.lt;omega)
   have HBA:=hide (hBa.kept gl (by simp))
   clear hbl hfl gl
   go_wp2_with fail
   refine hK9.out _ _ (uh HGL) (fun _ => ?_)
   clear hK9 K9
   (try simp only[pq])
   refine rdq 6 (some 15) (.call { callee := .value (.func 57),args := #[(.tmp 10),(.tmp 12),(.tmp 14)],argTypes := #[45,45,53] }) (fun K9 hK9 => ?_)
   go_simp
   go_at_call 57
   refine (uh HNR _ bo bc (uh HGL) (uh HBT)).mono ?_
   rintro e wn ⟨rfl,gn⟩
   have HGN:=hide (tn (uh HGL) gn)
   have HBU:=hide ((uh HBT).kept gn (fun _ e=>by cases e))
   have HBC:=hide ((uh HBA).kept gn (by simp))
   have HLW:=hide gn.size
   clear gn
   go_wp2_with fail
   refine hK9.out _ _ (uh HGN) (fun _ => ?_)
   clear hK9 K9
   (try simp only[pq])
   refine rdq 8 none (.store 106 (.tmp 7) (.tmp 15)) (fun K9 hK9 => ?_)
   rw[if_pos (by rfl)]
   refine wp_store_row _ _ _ rfl (W1.heap.size) (rcC g2 r2 nt (shaL T) (.slice bo nt bc)).toArray rfl rfl _ _ (uh HBC) (by simp[zbn (zbp T),zbj]) (by simp[zbn (zbp T),uh HZL]) (all_oneCell_toArray (zdm _ _ _ _ rfl)) ?_
   refine hK9.out _ _ (zaj (uh HGN) _ (Or.inl (uh HPA))) (fun _ => ?_)
   clear hK9 K9
   (try simp only[Act.put])
   refine wpAnyH_done (by kernel_rfl) ?_ _
   refine NoPanic.normal ?_
   have HFB:=hide ((uh HBC).row (rcC g2 r2 nt (shaL T) (.slice bo nt bc)))
   have HFT:=hide ((uh HBU).kept (zaj (zac _ (some (W1.heap.size))) (rcC g2 r2 nt (shaL T) (.slice bo nt bc)).toArray (Or.inr rfl)) (fun y e=>by cases e;exact uh HOF))
   have HFG:=hide (zaj (uh HGN) (rcC g2 r2 nt (shaL T) (.slice bo nt bc)).toArray (Or.inl (uh HPA)))
   go_wp2
   go_meet
   case rel=>exact ⟨_,bo,bc,rfl,uh HPA,uh HFB,uh HFT,uh HFL,uh HFG⟩
 case rest =>
  obtain ⟨q,bo,bc,rfl,hq,hBq,hbt,hbo,gx⟩:=hcut
  obtain ⟨b,o,hbo2⟩:=zh7 hbt (by have:=(uh HNT2).1;have:=uh HNT;omega)
  subst hbo2
  obtain ⟨RC,hRC⟩:∃ R,R=rcC g2 r2 nt (shaL T) (.slice (some ⟨b,o,none⟩) nt bc):=⟨_,rfl⟩
  rw[← hRC] at hBq
  have hRl:RC.length=36:=by rw[hRC];exact zbn (zbp T)
  obtain ⟨X,hX⟩:∃ X,X=swD D p2 g2 r2 (L.map ChI.chg):=⟨_,rfl⟩
  obtain ⟨X1,X2⟩:=X
  have hFw:=uh HFW
  have hs1:W1.heap.size=w.heap.size+1:=by rw[uh HW1,World.size_alloc]
  have hgx:=gx.size
  have HRW:=hide (show ∀ V,wc.grownBy V none→Calls Tryz.prog 59 #[.agg RC.toArray,.pointer (some ⟨d,0,none⟩),.int .i64 (p2:Int)] V fun e w'=>e = .returned (.int .i64 X2)∧Lf u V w' F d X1 from fun V gV=>by
   have:=zjh ((uh HD).nn (tn gx gV)) (uh HUU) g2 r2 (shaL T) (zbp T) b o bc T (hbt.kept gV (fun _ e=>by cases e)) (by have:=(uh HNT2).1;have:=uh HNT;omega) (by have:=(uh HNT2).2;have:=uh HNT;omega) p2 (by have:=uh HPP;have:=uh HMOST;omega)
   rw[← uh HNT,← hRC] at this
   have e1:ze2 D p2 (za8 (mkB g2 r2 nt (shaL T))) ((List.range (secN nt)).map (secB T))=(X1,X2):=by
    rw[hX,uh HNT,zh0,uh HT2]
    rfl
   rw[e1] at this
   exact this)
  have HRL:=hide (show (Tryz.prog.info? 106).map (·.size)=some RC.length by rw[hRl];exact zbj)
  have HBQ:=hide hBq
  have HNQ:=hide (show q∉F from fun hx=>by have:=(hFw q hx).2;omega)
  have HN4:=hide (show w.heap.size∉F from fun hx=>by have:=(hFw _ hx).2;omega)
  have HNS:=hide (show s∉F from uh HSF)
  have hbs:=(uh HBS).kept gx (by simp)
  have hb4:=(uh HB1).kept gx (by simp)
  have HCD:=hide (show wc.cell? ⟨s,0,none⟩=some (.pointer (some ⟨d,0,none⟩)) by rw[hbs.cell 0];rfl)
  have HCP:=hide (show wc.cell? ⟨w.heap.size,2,none⟩=some (.int .i64 (p2:Int)) by rw[hb4.cell 2,uh HH0];rfl)
  have HBS2:=hide hbs
  have HB42:=hide (show Blk wc w.heap.size 69 (hfC f2 e2 p2 g2 r2 m2) by rw[← uh HH0];exact hb4)
  obtain ⟨HXX,HGX,HRCE⟩:=zh3 hX gx hRC
  have hqs:=hq
  have HQ1:=hide (show w.heap.size<q by omega)
  clear hRC hRl hX hFw hs1 hgx hBq hbt hbo gx hbs hb4 hq hqs
  go_upto_region 2 with fail
  refine wp_region_noPanic ?_
  refine wp_region_held_drew (S:=fun V=>Fr wc V F) (by kernel_rfl) (Fr.none (zaa (zac wc none)) F) (fun _ => ?_)
  refine tz 0 16 (.load 106 (.tmp 7)) (.agg RC.toArray) (Fr.none (zaa (zac wc none)) F) ?_ (y:=(yieldsIf_load_mid (by rfl) _ _ rfl _ _ rfl RC _ (fun V hV=>zan (Fr.blk hV (uh HBQ) (uh HNQ))) Tryz.underlying106 rfl (uh HRL)))
  refine tq 1 17 (.move (.tmp 0)) ((.pointer (some ⟨s,0,none⟩))) (Fr.none (zaa (zac wc none)) F) ?_
  refine tq 2 18 (.nilCheck (.tmp 17)) ((.pointer (some ⟨s,0,none⟩))) (Fr.none (zaa (zac wc none)) F) ?_
  refine tq 3 19 (.fieldAddr 71 (.tmp 18) 0) ((.pointer (some ⟨s,0,none⟩))) (Fr.none (zaa (zac wc none)) F) ?_
  (try simp only[pq])
  refine tz 4 20 (.load 23 (.tmp 19)) ((.pointer (some ⟨d,0,none⟩))) (Fr.none (zaa (zac wc none)) F) ?_ (y:=(Or.inl ⟨by rfl,fun V hV=>by (have hv1:=Fr.cell hV (uh HCD) (uh HNS);go_simp)⟩))
  refine tq 5 21 (.fieldAddr 69 (.tmp 4) 2) ((.pointer (some ⟨w.heap.size,2,none⟩))) (Fr.none (zaa (zac wc none)) F) ?_
  refine tz 6 22 (.load 3 (.tmp 21)) ((.int .i64 (p2:Int))) (Fr.none (zaa (zac wc none)) F) ?_ (y:=(Or.inl ⟨by rfl,fun V hV=>by (have hv1:=Fr.cell hV (uh HCP) (uh HN4);go_simp)⟩))
  (try simp only[pq])
  refine rdq 7 (some 23) (.call { callee := .value (.func 59),args := #[(.tmp 16),(.tmp 20),(.tmp 22)],argTypes := #[106,23,3] }) (fun K9 hK9 => ?_)
  go_simp
  go_at_call 59
  refine (uh HRW _ (zaa (zac wc none))).mono ?_
  rintro e w5 ⟨rfl,hl5⟩
  obtain ⟨F',hd5,fr5,hF5⟩:=hl5
  have HD5:=hide hd5
  have HF5:=hide (show Fr wc w5 F from (Fr.none (zaa (zac wc none)) F).trans fr5 (fun x hx=>Or.inl hx))
  have HFS:=hide (show ∀ x∈F',x∈F∨wc.heap.size≤x from hF5)
  clear hd5 fr5 hF5
  go_wp2_with fail
  refine hK9.out _ _ (uh HF5) (fun _ => ?_)
  clear hK9 K9
  refine tq 8 8 (.assign (.tmp 23)) ((.int .i64 X2)) (uh HF5) ?_
  (try simp only[pq])
  refine wpAnyH_done (by kernel_rfl) ?_ _
  refine NoPanic.normal ?_
  have hd5:=uh HD5
  have hf5:=uh HF5
  have hfs:=uh HFS
  have hw15:Fr w w5 F:=(Fr.none (tn (uh HG1) (uh HGX)) F).trans hf5 (fun x hx=>Or.inl hx)
  have hvl:=(uh HVM).lt
  have hml:=uh HML
  have hb5:=hf5.blk (uh HBS2) (uh HNS)
  have hq5:=hf5.blk (uh HBQ) (uh HNQ)
  have h45:=hf5.blk (uh HB42) (uh HN4)
  have hms:m2≠s:=by
   obtain ⟨A,k,hmm,_⟩:=(uh HVM).clone
   intro e
   have hb' : W1.heap[s]? = _:=uh HBS
   rw[e,hb'] at hmm
   cases hmm
  have hwx:w.heap.size≤wc.heap.size:=(tn (uh HG1) (uh HGX)).size
  have hF'w:∀ y∈F',y∈F∨w.heap.size≤y:=fun y hy=>(hfs y hy).imp id (fun e=>Nat.le_trans hwx e)
  have hq4w:wc.heap.size > w.heap.size:=by have:=(uh HB42).lt;omega
  have hnF' : ∀ y,y∉F→y<wc.heap.size→y∉F':=fun y h1 h2 h3=>by rcases hfs y h3 with h4 | h4 <;> first | exact h1 h4 | omega
  by_cases hx0:X2=0
  ·subst hx0
   have hgv:VmW w5 m2 (w.heap.size::s::(F'++F)) V2:=by
    have h1:VmW w m2 (w.heap.size::s::(F'++F)) V2:=(uh HVW).more (fun x hx=>by
     simp only[List.mem_cons,List.mem_append] at hx
     rcases hx with rfl | rfl | hx | hx
     ·exact Or.inr (Or.inl (Nat.le_refl _))
     ·exact Or.inl (by simp)
     ·rcases hF'w x hx with h2 | h2
      ·exact Or.inl (by simp[h2])
      ·exact Or.inr (Or.inl h2)
     ·exact Or.inl (by simp[hx]))
    exact h1.fr hw15 (uh HMF) (fun x hx=>by simp[hx])
   have hcg:CsG w5 ao ac L [m2,w.heap.size]:=by
    have h1:CsG w ao ac L (w.heap.size::m2::s::F):=(uh HCW).more (fun x hx=>by
     simp only[List.mem_cons] at hx
     rcases hx with rfl | hx
     ·exact Or.inr (Nat.le_refl _)
     ·exact Or.inl (by simp only[List.mem_cons];exact hx))
    have h2:=h1.fr hw15 (fun x hx=>by simp[hx])
    exact ⟨h2.is,fun ad e hl hf=>h2.row ad e hl (by simp at hf ⊢;rcases hf with hf | hf <;> simp[hf]),fun x hx ad e hl hf=>h2.val x hx ad e hl (by simp at hf ⊢;rcases hf with hf | hf <;> simp[hf])⟩
   have hLl:L.length≤1000000:=by have:=(uh HMC).1;rw[List.length_map] at this;omega
   have hkl:∀ x∈L,x.key.length≤100000∧x.val.length≤1000000:=fun x hx=>by
    have:=(uh HMC).2 x.chg (List.mem_map.2 ⟨x,hx,rfl⟩)
    have h1:x.key.length≤96:=this.key2
    have h2:x.val.length≤65536:=this.val
    omega
   have hsz5:=hf5.size
   have ct:=zk8 w5 w.heap.size f2 e2 p2 g2 r2 m2 g2 r2 nt (shaL T) (.slice (some ⟨b,o,none⟩) nt bc) h45 (by have:=(uh HNT2).2;omega) (by have:=uh HPP;have:=uh HMOST;omega) (uh HRR) (w.heap.size::s::(F'++F)) V2 hgv ao ac L hcg hLl hkl (fun x hx=>by
    simp only[List.mem_cons,List.mem_append] at hx
    rcases hx with rfl | rfl | hx | hx
    ·omega
    ·have:=hb5.lt;omega
    ·exact (hd5.lo x hx).2
    ·have:=((uh HD).lo x hx).2;have:=(uh HGX).size;omega) (by simp)
   rw[← uh HRCE] at ct
   have hqb:=zan hq5
   obtain ⟨p3,hp3⟩:∃ p3,p3=p2+(1+secN nt):=⟨_,rfl⟩
   rw[← hp3] at ct
   have hp3' : p2+zbc (L.map ChI.chg)=p3:=by rw[hp3,uh HNT,uh HT2];rfl
   rw[← uh HNL] at ct
   obtain ⟨H1,hH1⟩:∃ H,H=hfC f2 e2 p3 g2 (r2+1) m2:=⟨_,rfl⟩
   rw[← hH1] at ct
   have hH1l:H1.length=6:=by rw[hH1];rfl
   have HHL:=hide (show (Tryz.prog.info? 69).map (·.size)=some H1.length by rw[hH1l];exact zau)
   have HHI:=hide (show (Tryz.prog.info? 69).map (·.size)=some H1.toArray.size by simp[hH1l,zau])
   have HHO:=hide (show H1.toArray.all (·.oneCell')=true by rw[hH1];exact all_oneCell_toArray (zcf _ _ _ _ _ _))
   have hfin:∀ w6,Blk w6 w.heap.size 69 H1→VmW w6 m2 (w.heap.size::s::(F'++F)) (zal V2 (L.map ChI.chg))→Fr w5 w6 [w.heap.size,m2] →
     w6.there s 1 H1.toArray.size∧(∃ F',Dw u (w6.setCells s 1 H1.toArray.toList) F' d X1∧(∀ y∈F',y∈F∨w.heap.size≤y)∧Fr w (w6.setCells s 1 H1.toArray.toList) (m2::s::F) ∧
      Blk (w6.setCells s 1 H1.toArray.toList) s 71 (stC d f2 e2 p3 g2 (r2+1) m2 st)∧VmW (w6.setCells s 1 H1.toArray.toList) m2 (s::F') (zal V2 (L.map ChI.chg))):=fun w6 h1 h2 h3=>by
    have hb6:=h3.blk hb5 (by
     have hs4:s≠w.heap.size:=by have:=uh HSL;omega
     simp only[List.mem_cons,List.not_mem_nil,or_false]
     rintro (e | e)
     ·exact hs4 e
     ·exact hms e.symm)
    have hg7:Fr w6 (w6.setCells s 1 H1.toArray.toList) [s]:=Fr.of (za1 (Or.inr rfl) _ _ (zac w6 (some s))) (fun x e=>by cases e;exact Or.inl (by simp))
    have hb7:Blk (w6.setCells s 1 H1.toArray.toList) s 71 (stC d f2 e2 p3 g2 (r2+1) m2 st):=by
     have:=Blk.setCells (A:=[.pointer (some ⟨d,0,none⟩)]) (C:=[.bool st]) H1.toArray.toList (hfC f e p g r m) hb6 (by simp[hH1l,hfC])
     unfold stC
     rw[← hH1]
     simpa using this
    refine ⟨by rw[show H1.toArray.size=6 by simp[hH1l]];exact hb6.there 1 6 (by simp[stC,hfC]),F',?_,hF'w,?_,hb7,?_⟩
    ·have hu1:=uh HUW
     have h7:=(hd5.fr h3 (fun x hx=>by
      simp only[List.mem_cons,List.not_mem_nil,or_false] at hx
      rcases hx with rfl | rfl
      ·exact hu1
      ·exact hml.1) (fun x hx=>by
      simp only[List.mem_cons,List.not_mem_nil,or_false]
      rintro (rfl | rfl)
      ·exact hnF' _ (uh HN4) hq4w hx
      ·exact hnF' _ (uh HMF) (by have:=hml.2;omega) hx))
     exact h7.fr hg7 (fun x hx=>by simp at hx;rw[hx];exact uh HUS) (fun x hx=>by
      simp only[List.mem_cons,List.not_mem_nil,or_false]
      rintro rfl
      exact hnF' _ (uh HNS) (by have:=uh HSL;omega) hx)
    ·refine ((hw15.more (G:=m2::s::F) (fun x hx=>Or.inl (by simp[hx]))).trans h3 (fun x hx => ?_)).trans hg7 (fun x hx=>Or.inl (by simp at hx;simp[hx]))
     simp only[List.mem_cons,List.not_mem_nil,or_false] at hx
     rcases hx with rfl | rfl
     ·exact Or.inr (Nat.le_refl _)
     ·exact Or.inl (by simp)
    ·have h8:=h2.fr hg7 (by simpa using hms) (fun x hx=>by simp at hx;simp[hx])
     exact h8.more (fun x hx=>Or.inl (by simp only[List.mem_cons] at hx;rcases hx with rfl | hx <;> simp[*]))
   have HFIN:=hide hfin
   have HP3:=hide hp3'
   have HRCL:=hide (show zan hq5=zan hq5 from rfl)
   clear HRCL hfin hp3' hp3 hH1 hH1l hgv hcg hLl hkl hsz5 hd5 hf5 hfs hw15 hvl hml hb5 hq5 h45 hms hwx hF'w hq4w hnF'
   go_wp2_with (first
    | (refine wpList_load_mid rfl 106 _ rfl q 0 rfl RC _ hqb Tryz.underlying106 rfl (uh HRL) ?_;clear hqb)
    | (go_at_call 56;refine ct.mono ?_;rintro e w6 ⟨rfl,hb6,hv6,fr6⟩;obtain ⟨hth,hend⟩:=uh HFIN w6 hb6 hv6 fr6;have HTH:=hide hth;have HEND:=hide hend;have hr6:=zan hb6;clear ct hb6 hv6 fr6 hth hend)
    | (refine wpList_load_mid rfl 69 _ rfl w.heap.size 0 rfl H1 _ hr6 Tryz.underlying69 rfl (uh HHL) ?_;clear hr6)
    | (refine wpList_store_mid rfl 69 _ _ rfl s 1 H1.toArray rfl rfl (uh HTH) (uh HHI) (uh HHO) ?_))
   go_ret
   rw[← uh HXX,uh HP3]
   obtain ⟨F2,q1,q2,q3,q4,q5⟩:=uh HEND
   exact ⟨rfl,F2,q1,q2,q3,fun _=>⟨q4,q5⟩⟩
  ·have hx0b:(X2 == 0)=false:=beq_eq_false_iff_ne.2 hx0
   obtain ⟨W6,hW6⟩:∃ W,W=w5.setCell ⟨s,7,none⟩ (.bool true):=⟨_,rfl⟩
   have hc7:w5.cell? ⟨s,7,none⟩=some (.bool st):=by rw[hb5.cell 7];rfl
   have hf7:=hb5.fz 7
   have hg7:Fr w5 W6 [s]:=by rw[hW6];exact Fr.of (zam (zac w5 (some s)) _ _ (Or.inr rfl)) (fun x e=>by cases e;exact Or.inl (by simp))
   have hd6:=hd5.fr hg7 (fun x hx=>by simp at hx;rw[hx];exact uh HUS) (fun x hx=>by
    simp only[List.mem_cons,List.not_mem_nil,or_false]
    rintro rfl
    exact hnF' _ (uh HNS) (by have:=uh HSL;omega) hx)
   have HD6:=hide hd6
   have HFW6:=hide (show ∀ y∈F',y∈F∨w.heap.size≤y from hF'w)
   have HF6:=hide (show Fr w W6 (m2::s::F) from (hw15.more (G:=m2::s::F) (fun x hx=>Or.inl (by simp[hx]))).trans hg7 (fun x hx=>Or.inl (by simp at hx;simp[hx])))
   obtain ⟨HW6,HX0⟩:=zh2 hW6 hx0
   clear hd5 hf5 hfs hw15 hvl hml hb5 hq5 h45 hms hwx hF'w hq4w hnF' hW6 hg7 hd6
   go_wp2_with (rw[← uh HW6])
   go_ret
   rw[← uh HXX]
   exact ⟨rfl,F',uh HD6,uh HFW6,uh HF6,fun e=>absurd e (uh HX0)⟩
theorem zgm {S:List (List UInt8)} {U:List (Nat × List UInt8)} {p:Nat} {b:List UInt8} : ∀ k,p+1+k≤S.length→za6 p ⟨S,U,-1,false⟩ 0 ((List.range k).map (secB b))=(⟨S,U++secU p b k,-1,false⟩,0)
 | 0,_=>by simp[za6,secU]
 | k+1,h=>by
   rw[List.range_succ,List.map_append,zdu,zgm k (by omega)]
   simp only[if_pos,List.map_cons,List.map_nil,List.length_map,List.length_range,Nat.zero_add,za6]
   have:=zmv (D:=⟨S,U++secU p b k,-1,false⟩) rfl (show (-1:Int)<0 by decide) (i:=p+1+k) (by simp only;omega) (b:=secB b k) (by rw[zcx];decide)
   rw[show (((p+1+k:Nat):Int))=(p:Int)+1+(k:Int) by omega] at this
   rw[this]
   simp only[if_pos,zio (zcx b k),zin,List.append_assoc]
theorem zh9 {S:List (List UInt8)} (hS:∀ s∈S,s.length=256) {p g r:Nat} {l:List Chg} (hp:p+zbc l≤S.length):swD ⟨S,[],-1,false⟩ p g r l=(⟨wrS shaL S p g r l,[],-1,false⟩,0):=by
 have hp2:zaz p l≤S.length:=by rw[zb2];exact hp
 have hp3:p+1+secN (recB l).length≤S.length:=by unfold zaz at hp2;exact hp2
 have h1:=zgm (S:=S) (U:=[]) (p:=p) (b:=recB l) _ hp3
 have hlen:∀ (f:Nat→Int) (U:List (Nat × List UInt8)) (k:Nat) (T:List (List UInt8)),(za7 f k U T).length=T.length:=by
  intro f U
  induction U with
  | nil=>intro k T;rfl
  | cons x U ih=>intro k T;rw[za7,ih];simp[lay1]
 have h3:=zlm zbp (g:=g) (n:=r) hS hp2
 have hmk:(za8 (zbq shaL g r (recB l))).length=256:=zec (zcm zbp g r (recB l))
 have hlen2:=hlen (fun _=>256)
 unfold swD
 generalize za8 (zbq shaL g r (recB l))=mk at hmk h3 ⊢
 generalize (List.range (secN (recB l).length)).map (secB (recB l))=ss at h1 ⊢
 generalize secU p (recB l) (secN (recB l).length)=UU at h1 h3
 generalize wrS shaL S p g r l=R at h3 ⊢
 rw[List.nil_append] at h1
 have e1:syD ⟨S,UU,-1,false⟩=(⟨za7 (fun _=>256) 0 UU S,[],-1,false⟩,0):=zmw rfl (show (-1:Int)<0 by decide)
 have hTl:(za7 (fun _=>256) 0 UU S).length=S.length:=hlen2 _ _ _
 generalize za7 (fun _=>256) 0 UU S=T at e1 h3 hTl
 have h2:wrD ⟨T,[],-1,false⟩ (p:Int) mk=(⟨T,[(p,padS mk)],-1,false⟩,0):=zmv (D:=⟨T,[],-1,false⟩) rfl (show (-1:Int)<0 by decide) (by show p<T.length;omega) (by omega)
 rw[zio hmk] at h2
 have e3:syD ⟨T,[(p,mk)],-1,false⟩=(⟨R,[],-1,false⟩,0):=by
  rw[← h3]
  exact zmw rfl (show (-1:Int)<0 by decide)
 unfold ze2
 rw[h1]
 simp only[if_pos]
 rw[e1]
 simp only[if_pos]
 rw[h2]
 simp only[if_pos]
 rw[e3]
structure SAc where
 kind:Int
 ao:Option Addr
 ac:Nat
 L:List ChI
deriving Inhabited
def saC (p:SAc):List Value:=[.int .i64 p.kind,.slice p.ao p.L.length p.ac]
structure SActs (w:World) (ao:Option Addr) (c:Nat) (L:List SAc):Prop where
 row:RwO w 2 saC ao c L
 ats:∀ p∈L,CsI w p.ao p.ac p.L
theorem SActs.kept {w a:World} {ao:Option Addr} {c:Nat} {L:List SAc} (h:SActs w ao c L) (g:w.grownBy a none):SActs a ao c L:=⟨h.row.kept g,fun p hp=>(h.ats p hp).kept g⟩
theorem RwO.lt {α:Type} {w:World} {K:Nat} {f:α→List Value} {ao:Option Addr} {c:Nat} {L:List α} (h:RwO w K f ao c L) (hf:∀ x,f x≠[]) {ad:Addr} (e:ao=some ad) (hl:L≠[]):ad.block<w.heap.size:=by
 obtain ⟨x,r,rfl⟩:=List.exists_cons_of_ne_nil hl
 obtain ⟨y,s,hy⟩:=List.exists_cons_of_ne_nil (hf x)
 have h1:=h.row ad e 0 (by simp) 0 y (by simp[hy])
 have h2:=World.block_lt_of_cell? w _ h1
 exact h2
theorem CsI.csg {u w:World} {ao:Option Addr} {c:Nat} {L:List ChI} (h:CsI u ao c L) (g:u.grownBy w none) {G:List Nat} (hG:∀ x∈G,u.heap.size≤x):CsG w ao c L G :=
 ⟨h.kept g,fun ad e hl hm=>by have h1:=h.row.lt (fun x hx=>by cases hx) e hl;have h2:=hG _ hm;omega,
  fun x hx ad e hl hm=>by have h1:=(h.val x hx).lt ad e hl;have h2:=hG _ hm;omega⟩
open Go.ChangeShapes Go.WideShapes Go.ChangeAt Go.Deep
theorem zjl:∃ f0 f1 f2:Field,Tryz.prog.underlying 55=some (.struct #[f0,f1,f2])∧(f0.type=9∧f0.offset=0)∧(f1.type=53∧f1.offset=1)∧(f2.type=4∧f2.offset=2) :=
 ⟨_,_,_,Tryz.underlying55,⟨rfl,rfl⟩,⟨rfl,rfl⟩,⟨rfl,rfl⟩⟩
theorem zjm:∃ f0 f1:Field,Tryz.prog.underlying 36=some (.struct #[f0,f1])∧(f0.type=3∧f0.offset=0)∧(f1.type=34∧f1.offset=1) :=
 ⟨_,_,Tryz.underlying36,⟨rfl,rfl⟩,⟨rfl,rfl⟩⟩
theorem zj5 {H:Type} {enc:TypeId × Value→H} {W:World} {n:Nat} {cs:List Value} {x:DataW H × List MemPlace} (h:DataW.trod enc Tryz.prog W 0 (fun _=>true) true n 55 cs=some x) :
  ∃ p:ChI,cs=ciC p∧Bts W p.bo p.bc p.val:=by
 obtain ⟨f0,f1,f2,he,⟨t0,o0⟩,⟨t1,o1⟩,⟨t2,o2⟩⟩:=zjl
 have k0:Tryz.prog.cellsOf 9=1:=by kernel_rfl
 have k1:Tryz.prog.cellsOf 53=1:=by kernel_rfl
 have k2:Tryz.prog.cellsOf 4=1:=by kernel_rfl
 have k5:Tryz.prog.cellsOf 55=3:=by kernel_rfl
 obtain ⟨xs,k,hk,hxy,hl,hxl,hf⟩:=DataW.trod_struct he h
 rw[k5] at hl
 match xs,hxl,cs,hl with
 | [y0,y1,y2],_,[v0,v1,v2],_ =>
   have g0:=hf 0 f0 rfl
   have g1:=hf 1 f1 rfl
   have g2:=hf 2 f2 rfl
   rw[t0,o0,k0] at g0
   rw[t1,o1,k1] at g1
   rw[t2,o2,k2] at g2
   simp only[List.drop_zero,List.drop_succ_cons,List.take_succ_cons,List.take_zero,List.getElem?_cons_zero,List.getElem?_cons_succ] at g0 g1 g2
   obtain ⟨s,e0,_,_⟩:=DataW.trod_string Tryz.underlying9 g0
   obtain ⟨l1,a1,c1,e1,b1⟩:=zp8 g1
   obtain ⟨b,e2,_⟩:=DataW.trod_bool Tryz.underlying4 g2
   simp only[List.cons.injEq,and_true] at e0 e2
   refine ⟨⟨s.data.toList,a1,c1,l1,b⟩,?_,b1⟩
   rw[e0,e1,e2]
   rfl
theorem zmn {H:Type} {enc:TypeId × Value→H} {W:World} {n:Nat} {cs:List Value} {x:DataW H × List MemPlace} (h:DataW.trod enc Tryz.prog W 0 (fun _=>true) true n 36 cs=some x) :
  ∃ p:SAc,cs=saC p∧CsI W p.ao p.ac p.L:=by
 obtain ⟨f0,f1,he,⟨t0,o0⟩,⟨t1,o1⟩⟩:=zjm
 have k0:Tryz.prog.cellsOf 3=1:=by kernel_rfl
 have k1:Tryz.prog.cellsOf 34=1:=by kernel_rfl
 have k5:Tryz.prog.cellsOf 36=2:=by kernel_rfl
 obtain ⟨xs,k,hk,hxy,hl,hxl,hf⟩:=DataW.trod_struct he h
 rw[k5] at hl
 match xs,hxl,cs,hl with
 | [y0,y1],_,[v0,v1],_ =>
   have g0:=hf 0 f0 rfl
   have g1:=hf 1 f1 rfl
   rw[t0,o0,k0] at g0
   rw[t1,o1,k1] at g1
   simp only[List.drop_zero,List.drop_succ_cons,List.take_succ_cons,List.take_zero,List.getElem?_cons_zero,List.getElem?_cons_succ] at g0 g1
   obtain ⟨z0,e0,_,_⟩:=DataW.trod_int Tryz.underlying3 g0
   obtain ⟨L,ao,c,hv,h1,h2,h3,h4,h5,h6⟩:=zjj (α:=ChI) (K:=3) ciC (fun p _=>Bts W p.bo p.bc p.val) Tryz.underlying34 (by kernel_rfl) (by decide) (fun n cs y hy=>zj5 hy) g1
   simp only[List.cons.injEq,and_true] at e0
   refine ⟨⟨z0,ao,c,L⟩,?_,⟨h1,h2,h3,h4,h5⟩,fun r hr=>by obtain ⟨_,e,_⟩:=h6 r hr;exact e⟩
   rw[e0,hv]
   rfl
theorem zmo {H:Type} {enc:TypeId × Value→H} {W:World} {a:Option Addr} {len cap:Nat} {d:DataW H} {p:List MemPlace} (h:DataW.Trod enc Tryz.prog W 0 (fun _=>true) true 22 (.slice a len cap) d p) :
  ∃ L:List SAc,L.length=len∧SActs W a cap L:=by
 obtain ⟨fuel,hf⟩:=h
 obtain ⟨L,ao,c,hv,h1,h2,h3,h4,h5,h6⟩:=zjj (α:=SAc) (K:=2) (v := .slice a len cap) saC (fun p _=>CsI W p.ao p.ac p.L) Tryz.underlying22 (by kernel_rfl) (by decide) (fun n cs y hy=>zmn hy) (by simpa[Value.cells] using hf)
 injection hv with e1 e2 e3
 subst e1 e2 e3
 exact ⟨L,rfl,⟨h1,h2,h3,h4,h5⟩,fun r hr=>by obtain ⟨_,e,_⟩:=h6 r hr;exact e⟩
end Go.Proofs.YtoilcpdhhlcidaaGreatDoor
