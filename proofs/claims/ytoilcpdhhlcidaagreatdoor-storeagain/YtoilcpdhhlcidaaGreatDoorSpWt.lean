/- Lemmas. -/
import Derived.Test.YtoilcpdhhlcidaaGreatDoorSpRh
import Derived.Test.YtoilcpdhhlcidaaGreatDoorSpR
namespace Go.Proofs.YtoilcpdhhlcidaaGreatDoor
open Go.RowKit
theorem VmW.look_at {w:World} {m:Nat} {G:List Nat} {V:List (List UInt8 × List UInt8)} (h:VmW w m G V) (k:List UInt8) (ok:Bool) :
  ∃ ao c x,(∀ W,w.grownBy W none→(Instr.lookup 67 (.map (some m)) (keyS k) ok).run Tryz.prog W = .ok (if ok then .tuple #[.slice ao x.length c,.bool (getK V k).isSome] else .slice ao x.length c) W)∧Bts w ao c x∧x=(getK V k).getD []∧∀ ad,ao=some ad→x≠[]→ad.block∉G:=by
 obtain ⟨h0,K,h1,h2,h3⟩:=h
 have hl:=fun (W:World) (g:w.grownBy W none)=>(h1.fr (Fr.none g []) (by simp)).look 67 53 Tryz.underlying67 (.slice none 0 0) (by kernel_rfl) k ok
 cases hg:getZ K k with
 | none =>
   have hk:k∉K.map (·.1):=fun hm=>by have:=(zdn K k).2 hm;rw[hg] at this;cases this
   rw[hg] at hl
   refine ⟨none,0,[],fun W g => ?_,Bts.nil w,by rw[h3 k hk];rfl,fun _ e=>by cases e⟩
   rw[hl W g,h3 k hk];rfl
 | some v =>
   obtain ⟨ao,c,x,e,hb,hv,hgg⟩:=h2 _ (zj2 hg)
   simp only at e hv
   rw[hg] at hl
   refine ⟨ao,c,x,fun W g => ?_,hb,by rw[hv];rfl,hgg⟩
   rw[hl W g,hv,e];rfl
theorem znq:∀ {V:List (List UInt8 × List UInt8)},RisK V→∀ (i:Nat) (h:i<V.length),getK V (V[i]).1=some (V[i]).2
 | (a,x)::V,hr,0,_=>by simp[getK]
 | (a,x)::V,hr,i+1,h=>by
   have h1:i<V.length:=by simpa using h
   have:=hr.cons.1 V[i] (List.getElem_mem h1)
   simp only[List.getElem_cons_succ,getK]
   rw[if_neg (ze4 this)]
   exact znq hr.cons.2 i h1
theorem zlq (a:ByteArray) (bo:Option Addr) (n c:Nat):Tryz.prog.built 55 [(0,.string a),(1,.slice bo n c)]=some #[.string a,.slice bo n c,.bool false]:=by kernel_rfl
theorem zeo {w:World} {ops:Array Oper} {rest:List Oper} {o:Oper} {a:Act} {Q:Exit→Act→World→Prop} (hgd:o.guard=none) (s x:Operand)
  (ho:o.op = .call { callee := .builtin .append,args := #[s,x],argTypes := #[34,34] })
  (base:Nat) (v:Value) (L M:List ChI) (hs:a.eval s=v) (hown:w.ownsRow base 55 3 v L.length (L.flatMap ciC)) (xo:Option Addr) (m c:Nat) (hx:a.eval x = .slice xo m c) (hm:m=M.length) (hM:Rws w 3 ciC xo c M)
  (hn:L.length+M.length≤2000000) (hbase:base≤w.heap.size)
  (h:∀ v' w',w'.ownsRow base 55 3 v' (L++M).length ((L++M).flatMap ciC)→w.grownBy w' v.ownBlock→wpList Tryz.prog ops Q rest (a.put o.dst v') w'):wpList Tryz.prog ops Q (o::rest) a w:=by
 obtain ⟨i0,hi,hz0,hz1,hz2⟩:=info_parts zir
 exact wpList_plain hgd fun _ hK=>zck s x 34 55 ho i0 _ 3 48 Tryz.underlying34 hi hz0 hz1 hz2 rfl (by decide) ciC zkh base v L M (fun _ _=>rfl) hs hown xo m c hx hm hM (by omega) (by omega) hbase
  (fun v' w' q1 q2=>hK _ _ (h v' w' q1 q2))
theorem zhl:∀ (V:List (List UInt8 × List UInt8)) (k v:List UInt8),(putK V k v).length≤V.length+1
 | [],_,_=>Nat.le_refl _
 | (a,x)::V,k,v=>by
   have:=zhl V k v
   unfold putK
   split
   ·simp
   ·split
    ·simp
    ·simp only[List.length_cons]
     omega
structure WiI (w:World) (G:List Nat) (v:Value) (A:List ChI) (W:World):Prop where
 row:W.ownsRow w.heap.size 55 3 v A.length (A.flatMap ciC)
 val:∀ x∈A,Bts W x.bo x.bc x.val∧∀ ad,x.bo=some ad→x.val≠[]→ad.block∉G∧ad.block<w.heap.size
 gb:w.grownBy W none
theorem WiI.app {w W W' : World} {G:List Nat} {v v' : Value} {A:List ChI} {x:ChI} (h:WiI w G v A W) (hx:Bts w x.bo x.bc x.val) (hg:∀ ad,x.bo=some ad→x.val≠[]→ad.block∉G) {W1:World} (g1:W.grownBy W1 none)
  (ho:W'.ownsRow w.heap.size 55 3 v' (A++[x]).length ((A++[x]).flatMap ciC)) (g:W1.grownBy W' v.ownBlock):WiI w G v' (A++[x]) W':=by
 have hlt:∀ y,v.ownBlock=some y→w.heap.size≤y:=fun y hy=>(h.row.lt y hy).1
 have key:∀ z:ChI,Bts W1 z.bo z.bc z.val→(∀ ad,z.bo=some ad→z.val≠[]→ad.block∉G∧ad.block<w.heap.size)→Bts W' z.bo z.bc z.val:=fun z hb hlz =>
  (Fr.of g (F:=v.ownBlock.toList) (fun y hy=>Or.inl (by rw[hy];simp))).bts0 hb (fun ad e hl hm=>by
   have h1:=(hlz ad e hl).2
   have h2:=hlt ad.block (by simpa using hm)
   omega)
 refine ⟨ho,fun z hz => ?_,zae (tn h.gb g1) g (fun y hy=>Or.inl (hlt y hy))⟩
 rcases List.mem_append.1 hz with hz | hz
 ·exact ⟨key z ((h.val z hz).1.kept g1 (fun _ e=>by cases e)) (h.val z hz).2,(h.val z hz).2⟩
 ·rw[List.mem_singleton.1 hz]
  have h2:∀ ad,x.bo=some ad→x.val≠[]→ad.block∉G∧ad.block<w.heap.size:=fun ad e hl=>⟨hg ad e hl,hx.lt ad e hl⟩
  exact ⟨key x (hx.kept (tn h.gb g1) (fun _ e=>by cases e)) h2,h2⟩
set_option maxRecDepth 100000 in
set_option maxHeartbeats 4000000 in
theorem zo4 (w:World) (b o m:Nat) (G:List Nat) (V:List (List UInt8 × List UInt8)) (h5:w.cell? ⟨b,o+5,none⟩=some (.map (some m))) (hv:VmW w m G V) (hG:∀ x∈G,x<w.heap.size) (ao:Option Addr) (ac:Nat) (L:List ChI) (hc:CsI w ao ac L) (hm:MayC (L.map ChI.chg))
  (hk:∀ y∈V,1≤y.1.length∧y.1.length≤96∧y.2.length≤65536) (hV:V.length≤100000) :
  Calls Tryz.prog 64 #[.pointer (some ⟨b,o,none⟩),.slice ao L.length ac] w fun r w'=>∃ (A:List ChI) (lo:Option Addr) (lc:Nat),r = .returned (.slice lo A.length lc)∧CsG w' lo lc A G∧A.map ChI.chg=allC (zaj V (L.map ChI.chg))∧w.grownBy w' none:=by
 obtain ⟨es,clk,hes,hvc⟩:=hv.clone
 have cc:=zk8 w m es clk hes
 obtain ⟨W1,hW1⟩:∃ W,W=w.alloc (.map es clk):=⟨_,rfl⟩
 rw[← hW1] at cc hvc
 have g1:w.grownBy W1 none:=by rw[hW1];exact zad (zaa _ _) _
 obtain ⟨m2,hm2⟩:∃ m,m=w.heap.size:=⟨_,rfl⟩
 rw[← hm2] at cc hvc
 have hLl:=hm.1
 rw[List.length_map] at hLl
 have hkl:∀ x∈L,x.key.length≤100000∧x.val.length≤1000000:=fun x hx=>by
  have:=hm.2 x.chg (List.mem_map.2 ⟨x,hx,rfl⟩)
  have h1:x.key.length≤96:=this.key2
  have h2:x.val.length≤65536:=this.val
  omega
 have hcg:CsG W1 ao ac L [m2]:=(CsG.more (G:=[]) ⟨hc,fun _ _ _=>by simp,fun _ _ _ _ _=>by simp⟩ (fun x hx=>Or.inr (by simp at hx;omega))).nn g1
 have ch:=zg1 W1 m2 G V hvc ao ac L hcg (by omega) hkl (fun x hx=>Nat.lt_of_lt_of_le (hG x hx) g1.size)
 obtain ⟨V2,hV2⟩:∃ V2,V2=zaj V (L.map ChI.chg):=⟨_,rfl⟩
 rw[← hV2] at ch ⊢
 have hr0:RisK V:=hv.1
 have hr2:RisK V2:=by rw[hV2];exact zbo _ hr0
 have hk2:∀ y∈V2,1≤y.1.length∧y.1.length≤96∧y.2.length≤65536:=by rw[hV2];exact zca _ hm.2 hk
 have hl2:V2.length≤200000:=by
  have:∀ (l:List Chg) (V:List (List UInt8 × List UInt8)),(zaj V l).length≤V.length+l.length:=by
   intro l
   induction l with
   | nil=>intro V;simp[zaj]
   | cons c l ih =>
     intro V
     have h1:=ih (zbn V c)
     have h2:(zbn V c).length≤V.length+1:=by
      unfold zbn
      split
      ·have:=List.length_filter_le (fun x:List UInt8 × List UInt8=>x.1 != c.key) V
       unfold delK
       omega
      ·exact zhl _ _ _
     show (zaj (zbn V c) l).length≤_
     rw[List.length_cons]
     omega
  have:=this (L.map ChI.chg) V
  rw[List.length_map] at this
  rw[hV2]
  omega
 have hgw:w.heap.size≤W1.heap.size:=g1.size
 obtain ⟨nl,hnl⟩:∃ n,n=L.length:=⟨_,rfl⟩
 rw[← hnl] at ch ⊢
 have hc5:=h5
 obtain ⟨HW1,HG1,HM2,HK2,HL2,HR2⟩:=zh6 hW1 g1 hm2 hk2 hl2 hr2
 have HGG:=hide hG
 clear h5 hv hG hc hm hk hV hes hvc hW1 g1 hm2 hLl hkl hcg hV2 hr0 hr2 hk2 hl2 hgw hnl
 go_enter Tryz.func64,Tryz.ntmps64
 go_wp2_with (first
  | (go_at_call 85;refine cc.mono ?_;rintro r w1 ⟨rfl,hw1⟩;have hw2:=hw1.symm;clear hw1;subst hw2;clear cc)
  | (go_at_call 76;fail))
 refine ch.mono ?_
 rintro r w2 ⟨rfl,hv2,fr2⟩
 have hb2:w.grownBy w2 none:=((Fr.none (uh HG1) []).trans fr2 (fun x hx=>Or.inr (by simp at hx;have:=uh HM2;omega))).gb (fun x hx=>by cases hx)
 have cr:=zg2 w2 m2 G V2 hv2 (fun y hy=>by have:=uh HK2 y hy;omega) (by have:=uh HL2;omega)
 obtain ⟨HB2,HV2⟩:=zh2 hb2 hv2
 clear ch hv2 fr2 hb2
 go_wp2_with (go_at_call 41;fail)
 refine cr.mono ?_
 rintro r w3 ⟨ko,kc,rfl,hcel,hfr,g3⟩
 obtain ⟨n,hn⟩:∃ n,n=V2.length:=⟨_,rfl⟩
 rw[← hn]
 have HC3:=hide hcel
 have HV3:=hide ((uh HV2).nn g3)
 have HB3:=hide (tn (uh HB2) g3)
 have HN:=hide hn
 have hi0:WiI w3 G (.slice none 0 0) [] w3:=⟨World.ownsRow_nil _ _ _ _,(fun _ h=>by cases h),zaa _ _⟩
 have HI0:=hide hi0
 clear cr hcel hfr g3 hn hi0
 go_wp2
 go_loopw [20,6] (fun i v wr=>∃ (j:Nat),i = .int .i64 j∧j≤n∧Hid (∃ A,WiI w3 G v A wr∧A.map ChI.chg=allC (V2.take j))) (fun i _ _=>n - (intOf i).toNat)
 case atStart=>exact ⟨0,rfl,Nat.zero_le _,[],uh HI0,rfl⟩
 case round =>
  clear HI0
  obtain ⟨j,rfl,hj,HI⟩:=hrel
  obtain ⟨A,hI,hA⟩:=uh HI
  by_cases hlt:j<n
  ·have hjl:j<V2.length:=by rw[← uh HN];exact hlt
   obtain ⟨kb,ko',hko,hkc⟩:=(uh HC3).at j (by simpa[kyC] using hjl)
   subst hko
   obtain ⟨a,ha⟩:∃ a,a=(V2[j]).1:=⟨_,rfl⟩
   have hke:(kyC V2)[j]'(by simpa[kyC] using hjl) = .string (str a):=by simp[kyC,ha]
   rw[hke] at hkc
   have hkc2:=hI.gb.cell hkc (by simp)
   obtain ⟨vo,vc,x,hlk,hbx,hxe,hxg⟩:=(uh HV3).look_at a false
   have hxv:x=(V2[j]).2:=by rw[hxe,ha,znq (uh HR2) j hjl];rfl
   obtain ⟨TK,hTK⟩:∃ T,T=str a:=⟨_,rfl⟩
   rw[← hTK] at hkc2
   obtain ⟨nx,hnx⟩:∃ n,n=x.length:=⟨_,rfl⟩
   have hlk2:∀ W,w3.grownBy W none→(Instr.lookup 67 (.map (some m2)) (.string TK) false).run Tryz.prog W = .ok (.slice vo nx vc) W:=fun W gW=>by
    have:=hlk W gW
    rw[hTK,hnx]
    exact this
   have hlk3:=hlk2 wr hI.gb
   have hji:(j:Int)<(n:Int):=by omega
   have hjw:IntKind.i64.wrap ((j:Int)+1)=(j:Int)+1:=by rw[IntKind.wrap_i64];have:=uh HL2;have:=uh HN;omega
   have HJ:=hide (show j+1≤200000 by have:=uh HL2;have:=uh HN;omega)
   obtain ⟨HIA,HAA⟩:=zh2 hI hA
   have hAl:A.length=j:=by have:=congrArg List.length hA;simp[allC] at this;omega
   obtain ⟨HAL,HTK,HNX,HBX,HXG⟩:=zh5 hAl hTK hnx hbx hxg
   have htk:V2.take (j+1)=V2.take j++[V2[j]]:=List.take_succ_eq_append_getElem hjl
   have HE:=hide (show (A++[(⟨a,vo,vc,x,false⟩:ChI)]).map ChI.chg=allC (V2.take (j+1)) by
    rw[htk,List.map_append,hA]
    unfold allC
    rw[List.map_append]
    simp[ChI.chg,ha,hxv])
   obtain ⟨W8,hW8,hB8,g8⟩:=zal wr 55 [.string TK,.slice vo nx vc,.bool false]
   have eci:ciC ⟨a,vo,vc,x,false⟩=[.string TK,.slice vo nx vc,.bool false]:=by rw[hTK,hnx];rfl
   have HW8:=hide (show W8=wr.alloc (.cells #[.string TK,.slice vo nx vc,.bool false] 55) from hW8)
   have HX8:=hide (show Rws W8 3 ciC (some ⟨wr.heap.size,0,none⟩) 1 [⟨a,vo,vc,x,false⟩] from zjf (by rw[eci];exact hB8))
   have HG8:=hide g8
   have HO8:=hide (hI.row.kept g8 (by cases Value.ownBlock u6 <;> simp))
   have HS8:=hide (tn hI.gb g8).size
   clear hkc hlk hlk2 hbx hxe hxg hxv hTK hnx hI hA hAl htk hjl hke ha hW8 hB8 g8 eci HI
   go_wp2_with (first
    | (refine za5 rfl 55 _ rfl #[.string TK,.slice vo nx vc,.bool false] ?hb ?_;(case hb=>exact Eq.trans (b:=Tryz.prog.built 55 [(0,.string TK),(1,.slice vo nx vc)]) (by kernel_rfl) (zlq _ _ _ _)))
    | (rw[← uh HW8])
    | (refine zeo rfl _ _ rfl w3.heap.size u6 A [⟨a,vo,vc,x,false⟩] rfl (uh HO8) (some ⟨wr.heap.size,0,none⟩) 1 1 rfl rfl (uh HX8) (by have:=uh HAL;have:=uh HJ;simp;omega) (uh HS8) ?_;intro v9 w9 ho9 g9;have HI9:=hide ((uh HIA).app (uh HBX) (uh HXG) (uh HG8) ho9 g9);clear ho9 g9))
   go_roundw
   case rel=>exact ⟨j+1,by go_num,by omega,_,uh HI9,uh HE⟩
   case measure=>simp[intOf];omega
  ·have hjn:j=n:=by omega
   have hji:¬ (j:Int)<(n:Int):=by omega
   have hAl:V2.take j=V2:=List.take_of_length_le (by rw[hjn,uh HN];exact Nat.le_refl _)
   rw[hAl] at hA
   obtain ⟨lo,lc,hv6,hrw⟩:=Rws.own ciC hI.row (fun _ _=>rfl)
   subst hv6
   obtain ⟨HIA,HAA,HRW⟩:=zh3 hI hA hrw
   clear hI hA hAl hrw HI hjn
   go_wp2
   go_ret
   refine ⟨A,lo,lc,rfl,⟨⟨(uh HRW).1,fun x hx=>((uh HIA).val x hx).1⟩,fun ad e hl hf => ?_,fun x hx ad e hl=>(((uh HIA).val x hx).2 ad e hl).1⟩,uh HAA,tn (uh HB3) (uh HIA).gb⟩
   have h1:=(uh HRW).2 ad e
   have h2:=uh HGG _ hf
   have h3:=(uh HB3).size
   omega
end Go.Proofs.YtoilcpdhhlcidaaGreatDoor
