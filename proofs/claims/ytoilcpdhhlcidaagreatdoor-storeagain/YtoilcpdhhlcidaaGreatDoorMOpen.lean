/- Lemmas. -/
import Derived.Test.YtoilcpdhhlcidaaGreatDoorSpOp
import Derived.Lib.Strings
import Derived.Laws.AppendOwnNone
import Derived.Lib.OthersKept
import Derived.Lib.SlBytesConst
import Derived.Test.YtoilcpdhhlcidaaGreatDoorDkCl
namespace Go.Proofs.YtoilcpdhhlcidaaGreatDoor
open Go.RowKit
set_option maxRecDepth 100000
section
variable {S:List (List UInt8)} {h c g:Nat} {ls:List (List Chg)} {e:Nat}
theorem znu (a:StoS shaL S h c g ls e) {g' p' : Nat} {ls' : List (List Chg)} (b:HfS S (c*h+h) (c*h) g' p' ls'):g'=g∧p'=e∧ls'.length=ls.length∧zaj [] ls'.flatten=zaj [] ls.flatten:=by
 have hg:=a.g64
 have hc:=a.c01
 have hl:=a.len
 obtain ⟨l,ls0,rfl⟩:=List.exists_cons_of_ne_nil a.ne
 rcases b with ⟨_,_,_,h4⟩ | ⟨h1,h2,h3,h4⟩
 ·exact absurd a.recs.1 (h4 g a.g1 (by omega) l)
 ·obtain ⟨l',ls0',rfl⟩:=List.exists_cons_of_ne_nil h1
  have e1:=(MkS.one zbg (a.recs.1.mks (by omega) (by omega)) (h4.1.mks h3 (by omega))).1
  subst e1
  have hf:=h4.fits (by rcases (show c=0∨c=1 by omega) with rfl | rfl <;> omega)
  have hn:=h4.len
  have hb:(l'::ls0').length<18446744073709551616:=by
   have:c*h+h≤2*h:=by rcases (show c=0∨c=1 by omega) with rfl | rfl <;> omega
   omega
  have q:=zbd.one zbg (by omega) (by simpa using hb) (by simp only[List.length_cons] at hg ⊢;omega) h4 a.recs
  refine ⟨rfl,q.2,?_,zgi q.1⟩
  have:=congrArg List.length q.1
  simpa using this
theorem zkn (a:StoS shaL S h c g ls e) {g' p' : Nat} {ls' : List (List Chg)} (b:HfS S ((1 - c)*h+h) ((1 - c)*h) g' p' ls'):g'<g:=by
 have h1:=a.g1
 rcases b with ⟨_,h2,_⟩ | ⟨h2,h3,h4,h5⟩
 ·omega
 ·obtain ⟨l',ls0',rfl⟩:=List.exists_cons_of_ne_nil h2
  have hh:(1 - c)*h<(1 - c)*h+h:=by
   have:=h5.1.fits
   omega
  exact a.old _ (Nat.le_refl _) hh g' 0 _ (h5.1.mks h4 (by omega))
end
theorem znv {S:List (List UInt8)} {hi f g p:Nat} {ls:List (List Chg)} (hn:∀ g n b,¬ MkS shaL S[f]? g n b) (b:HfS S hi f g p ls):g=0:=by
 rcases b with ⟨_,h2,_⟩ | ⟨h2,h3,h4,h5⟩
 ·exact h2
 ·obtain ⟨l',ls0',rfl⟩:=List.exists_cons_of_ne_nil h2
  exact absurd (h5.1.mks h4 (by omega)) (hn _ _ _)
theorem znw {u w:World} {F:List Nat} {d:Nat} {S:List (List UInt8)} {c g:Nat} {ls:List (List Chg)} {p:Nat} {rs:RSt} (h:Dw u w F d ⟨S,[],-1,false⟩) (on:OnS shaL S c g ls p rs) (hT:Tabs w) (hn:S.length / 2=rs.half) (h8:8≤S.length) :
  Calls Tryz.prog 10 #[.pointer (some ⟨d,0,none⟩)] w fun x w'=>∃ s m,x = .returned (.tuple #[.pointer (some ⟨s,0,none⟩),.int .i64 0])∧StM u w' F s d m S c g ls p rs∧w.grownBy w' none∧w.heap.size≤s∧w.heap.size≤m:=by
 have hc:=on.sto.c01
 have hg1:=on.sto.g1
 have hus:=h.gb.size
 have fin:∀ (w' : World) s m,w.grownBy w' none→Blk w' s 71 (stC d (c*rs.half) (c*rs.half+rs.half) p g ls.length m false)→VmW w' m (s::F) rs.V→w.heap.size≤s→w.heap.size≤m→StM u w' F s d m S c g ls p rs:=fun w' s m g1 g2 g3 g4 g5 =>
  ⟨h.nn g1,g2,g3,on,fun hx=>by have:=(h.lo s hx).2;omega,by omega,fun hx=>by have:=(h.lo m hx).2;omega,by omega,hn⟩
 refine (zkm h rfl rfl hT rs.half hn h8).mono fun x w' q => ?_
 obtain ⟨ls0,g0,p0,ls1,g1,p1,q⟩:=q
 have hh0:=q.h0
 have hh1:=q.h1
 simp only at hh0 hh1
 rcases (show c=0∨c=1 by omega) with rfl | rfl
 ·obtain ⟨e1,e2,e3,e4⟩:=znu on.sto (by rw[Nat.zero_mul,Nat.zero_add];exact hh0)
  have e5:g1<g:=zkn on.sto (by rw[Nat.sub_zero,Nat.one_mul,← Nat.two_mul];exact hh1)
  subst e1 e2
  obtain ⟨s,m,q1,q2,q3,q4,q5,q6⟩:=q.zero (by omega) (by omega)
  refine ⟨s,m,q1,fin w' s m q2 ?_ ?_ q5 q6,q2,q5,q6⟩
  ·rw[Nat.zero_mul,Nat.zero_add,← e3];exact q3
  ·rw[on.V,← e4];exact q4
 ·obtain ⟨e1,e2,e3,e4⟩:=znu on.sto (by rw[Nat.one_mul,← Nat.two_mul];exact hh1)
  have e5:g0<g:=zkn on.sto (by rw[Nat.sub_self,Nat.zero_mul,Nat.zero_add];exact hh0)
  subst e1 e2
  obtain ⟨s,m,q1,q2,q3,q4,q5,q6⟩:=q.one (by omega)
  refine ⟨s,m,q1,fin w' s m q2 ?_ ?_ q5 q6,q2,q5,q6⟩
  ·rw[Nat.one_mul,← Nat.two_mul,← e3];exact q3
  ·rw[on.V,← e4];exact q4
theorem zko {u w:World} {F:List Nat} {d:Nat} {S:List (List UInt8)} (h:Dw u w F d ⟨S,[],-1,false⟩) (hm:∀ (q g n:Nat) (b:List UInt8),¬ MkS shaL S[q]? g n b) (hT:Tabs w) (h8:8≤S.length) :
  Calls Tryz.prog 10 #[.pointer (some ⟨d,0,none⟩)] w fun x w'=>∃ s m F',x = .returned (.tuple #[.pointer (some ⟨s,0,none⟩),.int .i64 0])∧StM u w' F' s d m (wrS shaL S 0 1 0 []) 0 1 [[]] 2 ⟨[],S.length / 2,2,0⟩∧Fr w w' F∧(∀ y∈F',y∈F∨w.heap.size≤y)∧w.heap.size≤s∧w.heap.size≤m:=by
 have hus:=h.gb.size
 have hmost:S.length≤2048:=h.at_.ok.most
 refine (zkm h rfl rfl hT (S.length / 2) rfl h8).mono fun x w' q => ?_
 obtain ⟨ls0,g0,p0,ls1,g1,p1,q⟩:=q
 have e0:=znv (hm 0) q.h0
 have e1:=znv (hm _) q.h1
 obtain ⟨F',q1,q2,q3,_,q5⟩:=q.new (by omega) e0
 rw[zhm (S:=S) (p:=0) (g:=1) (r:=0) (l:=[]) h.at_.ok.wide (show 0+2≤S.length by omega)] at q1 q5
 obtain ⟨s,m,r1,r2,r3,r4,r5,r6,r7⟩:=q5 rfl
 refine ⟨s,m,F',r1,⟨q1,?_,r3,OnS.begin zbg (by omega) (by omega) (by omega) (fun q _=>hm q),r4,by omega,r5,by omega,by rw[zcj]⟩,q3,q2,r6,r7⟩
 rw[Nat.zero_mul,Nat.zero_add]
 exact r2
theorem zez (n:Nat):∀ (q g m:Nat) (b:List UInt8),¬ MkS shaL (List.replicate n zsec)[q]? g m b:=fun q g m b h=>by
 have:=h.is
 rw[List.getElem?_replicate] at this
 split at this
 ·injection this with this
  exact ziy this
 ·cases this
theorem zo7:(Tryz.prog.info? 9).map (fun i=>(i.zero,i.size,i.bytes))=some (some (.string ⟨#[]⟩),1,16):=by kernel_rfl
def stv (x:List UInt8):Value := .string (str x)
def Stg (w:World) (base:Nat) (v:Value) (L:List (List UInt8)):Prop:=w.ownsRow base 9 1 v L.length (L.map stv)
theorem Stg.nil (w:World) (base:Nat):Stg w base (.slice none 0 0) []:=World.ownsRow_nil w base _ 1
theorem Stg.kept {w a:World} {base:Nat} {v:Value} {L:List (List UInt8)} (h:Stg w base v L) (g:w.grownBy a none):Stg a base v L :=
 World.ownsRow.kept h g (by cases v.ownBlock <;> simp)
structure Stl (w:World) (base:Nat) (ao:Option Addr) (c:Nat) (L:List (List UInt8)):Prop where
 zip:ao=none→L.length=0
 new:∀ ad,ao=some ad→base≤ad.block∧ad.block<w.heap.size
 cell:∀ ad,ao=some ad→ad.off=0∧ad.spot=none∧∀ i (h:i<L.length),w.cell? ⟨ad.block,i,none⟩=some (.string (str L[i]))
theorem Stg.open {w:World} {base:Nat} {v:Value} {L:List (List UInt8)} (h:Stg w base v L):∃ ao c,v = .slice ao L.length c∧Stl w base ao c L:=by
 rcases h.2 with ⟨rfl,h2⟩ | ⟨g,cap,cur,rfl,hg,hh,h3,h4,h5,h6⟩
 ·rw[h2]
  exact ⟨none,0,rfl,fun _=>h2,(fun _ e=>by cases e),(fun _ e=>by cases e)⟩
 ·refine ⟨some ⟨g,0,none⟩,cap,rfl,(fun e=>by cases e),(fun ad e => ?_),(fun ad e => ?_)⟩
  ·cases e
   exact ⟨hg,(Array.getElem?_eq_some_iff.1 hh).1⟩
  ·cases e
   refine ⟨rfl,rfl,fun i hi => ?_⟩
   have h7:(cur.toList.take (L.length*1))[i]? = (L.map stv)[i]? := by rw[h6]
   rw[List.getElem?_take_of_lt (by omega)] at h7
   simp[World.cell?,hh,hi,stv] at h7 ⊢
   exact h7
theorem Stl.kept {w a:World} {base:Nat} {ao:Option Addr} {c:Nat} {L:List (List UInt8)} (h:Stl w base ao c L) (g:w.grownBy a none):Stl a base ao c L :=
 ⟨h.zip,fun ad e=>⟨(h.new ad e).1,Nat.lt_of_lt_of_le (h.new ad e).2 g.size⟩,fun ad e=>⟨(h.cell ad e).1,(h.cell ad e).2.1,fun i hi=>g.cell ((h.cell ad e).2.2 i hi) (by simp)⟩⟩
theorem Stl.lower {w:World} {base b2:Nat} {ao:Option Addr} {c:Nat} {L:List (List UInt8)} (h:Stl w base ao c L) (hb:b2≤base):Stl w b2 ao c L :=
 ⟨h.zip,fun ad e=>⟨Nat.le_trans hb (h.new ad e).1,(h.new ad e).2⟩,h.cell⟩
theorem Stl.at {w:World} {base:Nat} {ao:Option Addr} {c:Nat} {L:List (List UInt8)} (h:Stl w base ao c L) (i:Nat) (hi:i<L.length):∃ b,ao=some ⟨b,0,none⟩∧w.cell? ⟨b,i,none⟩=some (.string (str L[i])):=by
 cases ao with
 | none=>have:=h.zip rfl;omega
 | some ad =>
   obtain ⟨h1,h2,h3⟩:=h.cell ad rfl
   obtain ⟨b,o,s⟩:=ad
   simp only at h1 h2
   subst h1 h2
   exact ⟨b,rfl,h3 i hi⟩
theorem zeq {w:World} {ops:Array Oper} {rest:List Oper} {o:Oper} {a:Act} {Q:Exit→Act→World→Prop} (hgd:o.guard=none) (s x:Operand)
  (ho:o.op = .call { callee := .builtin .append,args := #[s,x],argTypes := #[30,30] })
  (base:Nat) (v:Value) (L:List (List UInt8)) (y:List UInt8) (b:Nat) (hs:a.eval s=v) (hown:Stg w base v L)
  (hx:a.eval x = .slice (some ⟨b,0,none⟩) 1 1) (hb:w.cell? ⟨b,0,none⟩=some (stv y)) (hn:L.length≤1000000) (hbase:base≤w.heap.size)
  (h:∀ v' w',Stg w' base v' (L++[y])→w.grownBy w' v.ownBlock→wpList Tryz.prog ops Q rest (a.put o.dst v') w'):wpList Tryz.prog ops Q (o::rest) a w:=by
 obtain ⟨i0,hi,hz0,hz1,hz2⟩:=info_parts zo7
 exact wpList_append_own w hgd s x 30 ho base 9 i0 (.string ⟨#[]⟩) 1 16 Tryz.underlying30 hi hz0 hz1 hz2 rfl (by decide) v L.length (L.map stv) hs hown ⟨b,0,none⟩ 1 1 [stv y] hx (by simp)
  (fun j u hj=>by
   match j,hj with
   | 0,hj=>simp at hj;subst hj;simpa[Addr.add] using hb)
  (fun u hu=>by simp at hu;subst hu;rfl) (by unfold maxLen;omega) (by omega) hbase
  (fun v' w' q1 q2 _=>h v' w' (by unfold Stg;simpa using q1) q2)
def zce (V:List (List UInt8 × List UInt8)) (pf:List UInt8):List (List UInt8):=(zb2 V).filter fun k=>Lib.hasPrefix k pf
theorem zf7 (V:List (List UInt8 × List UInt8)) (pf:List UInt8):(zce V pf).length≤V.length:=by
 have:=List.length_filter_le (fun k=>Lib.hasPrefix k pf) (zb2 V)
 unfold zb2 at this
 rw[List.length_map] at this
 exact this
set_option maxHeartbeats 4000000 in
theorem zo8 (w:World) (s d f e p g r m:Nat) (st:Bool) (hb:Blk w s 71 (stC d f e p g r m st)) (G:List Nat) (V:List (List UInt8 × List UInt8)) (hv:VmW w m G V) (pf:List UInt8) (hk:∀ y∈V,y.1.length≤96) (hl:V.length≤100000) :
  Calls Tryz.prog 20 #[.pointer (some ⟨s,0,none⟩),.string (str pf)] w fun x w'=>∃ ao c,x = .returned (.slice ao (zce V pf).length c)∧Cel w' ao c ((zce V pf).map stv)∧w.grownBy w' none:=by
 have cm:=zda w s d (by rw[hb.cell 0];rfl)
 have hc:w.cell? ⟨s,6,none⟩=some (.map (some m)):=by rw[hb.cell 6];rfl
 have cr:=zg2 w m G V hv (fun y hy=>by have:=hk y hy;omega) (by omega)
 obtain ⟨n,hn⟩:∃ n,n=V.length:=⟨_,rfl⟩
 rw[← hn] at cr
 obtain ⟨TP,hTP⟩:∃ T,T=str pf:=⟨_,rfl⟩
 rw[← hTP]
 obtain ⟨HN,HTP,HK,HL⟩:=zh4 hn hTP hk hl
 clear hb hv hn hTP hk hl
 go_enter Tryz.func20,Tryz.ntmps20
 go_wp2_with (first
  | (go_at_call 36;refine cm.mono ?_;rintro e w1 ⟨rfl,hw1⟩;have hw2:=hw1.symm;clear hw1;subst hw2;clear cm)
  | (go_at_call 41;fail))
 refine cr.mono ?_
 rintro e w3 ⟨ko,kc,rfl,hcel,hfr,g3⟩
 obtain ⟨HC3,HG3⟩:=zh2 hcel g3
 clear cr hcel hfr g3 hc
 go_wp2
 go_loopw [18,5] (fun i v wr=>∃ (j:Nat),i = .int .i64 j∧j≤n∧Hid (w3.grownBy wr none)∧Hid (Stg wr w3.heap.size v (zce (V.take j) pf))) (fun i _ _=>n - (intOf i).toNat)
 case atStart=>exact ⟨0,rfl,Nat.zero_le _,zaa _ _,Stg.nil _ _⟩
 case round =>
  obtain ⟨j,rfl,hj,HG,HO⟩:=hrel
  by_cases hlt:j<n
  ·have hjl:j<V.length:=by rw[← uh HN];exact hlt
   obtain ⟨kb,ko',hko,hkc⟩:=(uh HC3).at j (by simpa[kyC] using hjl)
   subst hko
   obtain ⟨a,ha⟩:∃ a,a=(V[j]).1:=⟨_,rfl⟩
   have hke:(kyC V)[j]'(by simpa[kyC] using hjl) = .string (str a):=by simp[kyC,ha]
   rw[hke] at hkc
   have hkc2:=(uh HG).cell hkc (by simp)
   have hal:a.length≤96:=by rw[ha];exact uh HK _ (List.getElem_mem hjl)
   have hpx:=zk9 wr a pf
   obtain ⟨TK,hTK⟩:∃ T,T=str a:=⟨_,rfl⟩
   have HCS:=hide (show ∀ W,Calls Tryz.prog 43 #[.string TK] W fun e w'=>e = .returned (.string TK)∧W.grownBy w' none from fun W=>by rw[hTK];exact zg0 W a (by omega))
   rw[← hTK,← uh HTP] at hpx
   rw[← hTK] at hkc2
   have hji:(j:Int)<(n:Int):=by omega
   have hjw:IntKind.i64.wrap ((j:Int)+1)=(j:Int)+1:=by rw[IntKind.wrap_i64];have:=uh HL;have:=uh HN;omega
   have htk:V.take (j+1)=V.take j++[V[j]]:=List.take_succ_eq_append_getElem hjl
   have hkp:zce (V.take (j+1)) pf=if Lib.hasPrefix a pf=true then zce (V.take j) pf++[a] else zce (V.take j) pf:=by
    unfold zce zb2
    rw[htk,List.map_append,List.filter_append]
    simp only[List.map_cons,List.map_nil,← ha]
    by_cases hq:Lib.hasPrefix a pf=true
    ·rw[if_pos hq,List.filter_cons_of_pos (by simpa using hq),List.filter_nil]
    ·rw[if_neg hq,List.filter_cons_of_neg (by simpa using hq),List.filter_nil,List.append_nil]
   have HLN:=hide (show (zce (V.take j) pf).length≤1000000 by
    have h1:=zf7 (V.take j) pf
    have h2:=uh HL
    rw[List.length_take] at h1
    omega)
   have HTK:=hide hTK
   clear hjl hkc hke ha hal hTK htk
   cases hq:Lib.hasPrefix a pf
   case false =>
    rw[hq] at hpx
    have HKP:=hide (show zce (V.take (j+1)) pf=zce (V.take j) pf by rw[hkp,hq];rfl)
    clear hkp hq
    go_wp2_with (go_at_call 42;refine hpx.mono ?_;rintro e w5 ⟨rfl,hw5⟩;have hw6:=hw5.symm;clear hw5;subst hw6;clear hpx)
    go_roundw
    case rel=>exact ⟨j+1,by go_num,by omega,uh HG,by rw[uh HKP];exact uh HO⟩
    case measure=>simp[intOf];omega
   case true =>
    rw[hq] at hpx
    have HKP:=hide (show zce (V.take (j+1)) pf=zce (V.take j) pf++[a] by rw[hkp,hq];rfl)
    clear hkp hq
    go_wp2_with (first
     | (go_at_call 42;refine hpx.mono ?_;rintro e w5 ⟨rfl,hw5⟩;have hw6:=hw5.symm;clear hw5;subst hw6;clear hpx)
     | (go_at_call 43;refine (uh HCS _).mono ?_;rintro e w7 ⟨rfl,g7⟩;obtain ⟨W8,hW8,hB8,g8⟩:=zal w7 9 [.string TK];have HW8:=hide (show W8=w7.alloc (.cells #[.string TK] 9) from hW8);have HS8:=hide ((uh HO).kept (tn g7 g8));have HG8:=hide (tn (uh HG) (tn g7 g8));have HC8:=hide (show W8.cell? ⟨w7.heap.size,0,none⟩=some (stv a) by rw[hB8.cell 0,uh HTK];rfl);clear g7 hW8 hB8 g8)
     | (rw[← uh HW8])
     | (refine zeq rfl _ _ rfl w3.heap.size u5 (zce (V.take j) pf) a w7.heap.size rfl (uh HS8) rfl (uh HC8) (uh HLN) (uh HG8).size ?_;intro v9 w9 ho9 g9;have HO9:=hide ho9;have HG9:=hide (show w3.grownBy w9 none from zae (uh HG8) g9 (fun y hy=>Or.inl ((uh HS8).lt y hy).1));clear ho9 g9))
    go_roundw
    case rel=>exact ⟨j+1,by go_num,by omega,uh HG9,by rw[uh HKP];exact uh HO9⟩
    case measure=>simp[intOf];omega
  ·have hjn:j=n:=by omega
   have hji:¬ (j:Int)<(n:Int):=by omega
   have hAl:V.take j=V:=List.take_of_length_le (by rw[hjn,uh HN];exact Nat.le_refl _)
   rw[hAl] at HO
   obtain ⟨ao,c,hv5,hce,-⟩:=Cel.own (L:=(zce V pf).map stv) (by rw[List.length_map];exact uh HO) (fun u hu=>by obtain ⟨y,_,rfl⟩:=List.mem_map.1 hu;rfl)
   subst hv5
   have HCE:=hide hce
   clear hjn hAl hce HO
   go_wp2
   go_ret
   exact ⟨ao,c,rfl,uh HCE,tn (uh HG3) (uh HG)⟩
theorem StM.gb {u w:World} {F:List Nat} {s d m:Nat} {S:List (List UInt8)} {c g:Nat} {ls:List (List Chg)} {p:Nat} {rs:RSt} (h:StM u w F s d m S c g ls p rs):u.grownBy w none:=h.dw.gb
theorem znx (V:World) (l:List UInt8) (mk:Nat × Nat) (h:l.length≤maxLen):Bts (V.alloc (.cells (l.map bv).toArray 5 mk)) (some ⟨V.heap.size,0,none⟩) l.length l:=by
 refine ⟨(fun e=>by cases e),Nat.le_refl _,h,(fun ad e _=>by cases e;rfl),(fun ad e i hi => ?_)⟩
 cases e
 show (V.alloc (.cells (l.map bv).toArray 5 mk)).cell? ⟨V.heap.size,0+i,none⟩=_
 rw[Nat.zero_add,cell_of_row _ _ i _ _ _ (heap_alloc_new V _)]
 simp[hi,bv]
def oneL:List Chg:=[⟨[97],[98],false⟩]
theorem zo9:MayC oneL:=⟨by decide,fun c hc=>by rw[List.mem_singleton.1 hc];exact ⟨by decide,by decide,by decide⟩⟩
theorem zqx:cmS ⟨[],4,2,0⟩ oneL=(⟨[([97],[98])],4,4,0⟩,0):=by
 unfold cmS
 rw[if_neg (fun e=>e zo9),if_neg (by simp[oneL]),if_pos (by decide)]
 rfl
set_option maxHeartbeats 4000000 in
theorem zny (w:World) (hT:Tabs w):Calls Tryz.prog 21 #[] w fun e w'=>e = .returned (.bool true)∧w.grownBy w' none:=by
 have cn:=lnew (zaa w none) 8 (by decide) (by decide)
 rw[show ((8:Nat):Int)=8 from rfl] at cn
 have HT:=hide hT
 clear hT
 go_enter Tryz.func21,Tryz.ntmps21
 go_wp2_with (go_at_call 9;fail)
 refine cn.mono ?_
 rintro e w1 ⟨d,F,rfl,hd1,hF,g1⟩
 have co:=zko hd1 (zez 8) ((uh HT).kept0 g1) (by simp)
 clear cn hF
 go_wp2_with (go_at_call 10;fail)
 refine co.mono ?_
 rintro e w2 ⟨s,m,F',rfl,hs2,-,-,-,-⟩
 have cl:=zkl w2 s d _ _ _ _ _ _ _ hs2.blk (by simp) (by simp)
 rw[show ((0*(⟨[],(List.replicate 8 zsec).length / 2,2,0⟩:RSt).half+(⟨[],(List.replicate 8 zsec).length / 2,2,0⟩:RSt).half - 2:Nat):Int)=2 by simp] at cl
 have HS2:=hide hs2
 clear co hs2 hd1 g1
 go_upto_region 3 with fail
 refine zam fun O hO => ?_
 refine zac (by rw[hO];kernel_rfl) (.int .i64 0) (fun K9 hK9=>by go_simp;exact hK9) ?_
 (try simp only[pq])
 refine zac (by rw[hO];kernel_rfl) (.bool false) (fun K9 hK9=>by go_simp;exact hK9) ?_
 (try simp only[pq])
 refine zac (by rw[hO];kernel_rfl) (.bool false) (fun K9 hK9=>by go_simp;exact hK9) ?_
 (try simp only[pq])
 refine zac (by rw[hO];kernel_rfl) (.pointer (some ⟨s,0,none⟩)) (fun K9 hK9=>by go_simp;exact hK9) ?_
 (try simp only[pq])
 refine zac (by rw[hO];kernel_rfl) (.bool false) (fun K9 hK9=>by go_simp;exact hK9) ?_
 (try simp only[pq])
 refine zac (by rw[hO];kernel_rfl) (.bool false) (fun K9 hK9=>by go_simp;exact hK9) ?_
 (try simp only[pq])
 refine zac (by rw[hO];kernel_rfl) (.bool false) (fun K9 hK9=>by go_simp;exact hK9) ?_
 (try simp only[pq])
 refine zac (by rw[hO];kernel_rfl) (.pointer (some ⟨s,0,none⟩)) (fun K9 hK9=>by go_simp;exact hK9) ?_
 (try simp only[pq])
 refine zag (by rw[hO];kernel_rfl) fun K9 hK9 => ?_
 go_simp
 go_at_call 17
 refine (cl).mono ?_
 rintro e w9 ⟨rfl,g9⟩
 have HG9:=hide g9
 clear cl g9
 refine hK9 _ _ ?_
 clear hK9 K9
 (try simp only[pq])
 refine zac (by rw[hO];kernel_rfl) (.bool false) (fun K9 hK9=>by go_simp;exact hK9) ?_
 (try simp only[pq])
 refine zac (by rw[hO];kernel_rfl) (.bool false) (fun K9 hK9=>by go_simp;exact hK9) ?_
 (try simp only[pq])
 have hs9:=(uh HS2).nn (uh HG9)
 have HS9:=hide hs9
 obtain ⟨W3,hW3⟩:∃ W,W=w9.alloc (.cells #[.int .u8 98] 5 (1,2)):=⟨_,rfl⟩
 have g3:w9.grownBy W3 none:=by rw[hW3];exact zad (zaa _ _) _
 have hcv:(convert 53 53 (.slice (some ⟨w9.heap.size,0,none⟩) 1 1)).run Tryz.prog (w9.alloc (.cells #[.int .u8 98] 5)) = .ok (.slice (some ⟨w9.heap.size,0,none⟩) 1 1) W3:=by
  rw[hW3];exact Lib.run_convert_bytes_const (P:=Tryz.prog) w9 53 5 #[.int .u8 98] 1 1 Tryz.underlying53 Tryz.underlying5
 have hbx3:Bts W3 (some ⟨w9.heap.size,0,none⟩) 1 [98]:=by rw[hW3];exact znx w9 [98] (1,2) (by unfold maxLen;decide)
 obtain ⟨W4,hW4,hB4,g4⟩:=zal W3 55 [.string ⟨#[97]⟩,.slice (some ⟨w9.heap.size,0,none⟩) 1 1,.bool false]
 have hx4:Rws W4 3 ciC (some ⟨W3.heap.size,0,none⟩) 1 [(⟨[97],some ⟨w9.heap.size,0,none⟩,1,[98],false⟩:ChI)]:=zjf (show Blk W4 W3.heap.size 55 (ciC ⟨[97],some ⟨w9.heap.size,0,none⟩,1,[98],false⟩) from hB4)
 have hbx:Bts W4 (some ⟨w9.heap.size,0,none⟩) 1 [98]:=hbx3.kept g4 (fun _ e=>by cases e)
 have hs4:=(hs9.nn g3).nn g4
 have hlow:∀ x∈m::s::F',x<w9.heap.size:=fun x hx=>by
  simp only[List.mem_cons] at hx
  rcases hx with rfl | rfl | hx
  ·exact hs9.vm.lt
  ·exact hs9.blk.lt
  ·exact (hs9.dw.lo x hx).2
 have hcs:CsG W4 (some ⟨W3.heap.size,0,none⟩) 1 [(⟨[97],some ⟨w9.heap.size,0,none⟩,1,[98],false⟩:ChI)] (m::s::F'):=by
  refine ⟨⟨hx4,fun x hx=>by rw[List.mem_singleton.1 hx];exact hbx⟩,fun ad e _ hm => ?_,fun x hx ad e _ hm => ?_⟩
  ·cases e
   have h1:=hlow _ hm
   have h2:=g3.size
   simp only at h1
   omega
  ·rw[List.mem_singleton.1 hx] at e
   cases e
   have h1:=hlow _ hm
   simp only at h1
   omega
 have hT4:=(uh HT).kept0 hs4.gb
 have cc:=zg3 hs4 hT4 _ _ _ hcs (by simp) (by simp) (by simp)
 rw[show ([(⟨[97],some ⟨w9.heap.size,0,none⟩,1,[98],false⟩:ChI)]).map ChI.chg=oneL from rfl,show (⟨[],(List.replicate 8 zsec).length / 2,2,0⟩:RSt)=⟨[],4,2,0⟩ by simp,zqx,show ([(⟨[97],some ⟨w9.heap.size,0,none⟩,1,[98],false⟩:ChI)]).length=1 from rfl] at cc
 have HW4:=hide (show W4=W3.alloc (.cells #[.string ⟨#[97]⟩,.slice (some ⟨w9.heap.size,0,none⟩) 1 1,.bool false] 55) from hW4)
 clear hs9 hW3 hbx3 g3 hW4 hB4 g4 hx4 hbx hs4 hlow hcs hT4
 go_wp2_with (first
  | (rw[← uh HW4])
  | (go_at_call 15;fail))
 refine cc.mono ?_
 rintro e w5 ⟨rfl,F2,m2,S2,c2,g2,ls2,p2,hs5,-⟩
 have hn5:=hs5.hn
 simp only at hn5
 have co:=znw hs5.dw hs5.on ((uh HT).kept0 hs5.gb) hn5 (by omega)
 clear cc hs5 hn5
 go_wp2_with (go_at_call 10;fail)
 refine co.mono ?_
 rintro e w6 ⟨s6,m6,rfl,hs6,-⟩
 have cg:=zns w6 s6 d _ _ _ _ _ _ _ hs6.blk _ _ hs6.vm [97] (by simp[getK])
 rw[show (getK (⟨[([97],[98])],4,4,0⟩:RSt).V [97])=some [98] from rfl] at cg
 simp only[Option.getD_some,List.length_cons,List.length_nil,Option.isSome_some,Nat.zero_add] at cg
 rw[show str [97]=⟨#[97]⟩ from rfl] at cg
 have HS6:=hide hs6
 clear co hs6
 go_wp2_with (go_at_call 25;fail)
 refine cg.mono ?_
 rintro e w7 ⟨ga,gc,rfl,hb7,g7⟩
 have HCV:=hide (show (convert 53 9 (.slice ga 1 gc)).run Tryz.prog w7 = .ok (.string ⟨#[98]⟩) w7 from zdd hb7)
 have HG7:=hide g7
 clear cg hb7 g7
 go_upto_region 8 with fail
 refine zam fun O hO => ?_
 refine zac (by rw[hO];kernel_rfl) (.int .i64 0) (fun K9 hK9=>by go_simp;exact hK9) ?_
 (try simp only[pq])
 refine zac (by rw[hO];kernel_rfl) (.bool true) (fun K9 hK9=>by go_simp;exact hK9) ?_
 (try simp only[pq])
 refine zac (by rw[hO];kernel_rfl) (.bool true) (fun K9 hK9=>by go_simp;exact hK9) ?_
 (try simp only[pq])
 refine zac (by rw[hO];kernel_rfl) (.int .i64 0) (fun K9 hK9=>by go_simp;exact hK9) ?_
 (try simp only[pq])
 refine zac (by rw[hO];kernel_rfl) (.bool true) (fun K9 hK9=>by go_simp;exact hK9) ?_
 (try simp only[pq])
 refine zac (by rw[hO];kernel_rfl) (.bool true) (fun K9 hK9=>by go_simp;exact hK9) ?_
 (try simp only[pq])
 refine zac (by rw[hO];kernel_rfl) (.bool true) (fun K9 hK9=>by go_simp;exact hK9) ?_
 (try simp only[pq])
 refine zac (by rw[hO];kernel_rfl) (.bool true) (fun K9 hK9=>by go_simp;exact hK9) ?_
 (try simp only[pq])
 refine zac (by rw[hO];kernel_rfl) (.bool true) (fun K9 hK9=>by go_simp;exact hK9) ?_
 (try simp only[pq])
 refine zac (by rw[hO];kernel_rfl) (.bool true) (fun K9 hK9=>by go_simp;exact hK9) ?_
 (try simp only[pq])
 refine zac (by rw[hO];kernel_rfl) (.slice ga 1 gc) (fun K9 hK9=>by go_simp;exact hK9) ?_
 (try simp only[pq])
 refine zac (by rw[hO];kernel_rfl) (.string ⟨#[98]⟩) (fun K9 hK9=>by have hv1:=uh HCV;go_simp;exact hK9) ?_
 (try simp only[pq])
 refine zac (by rw[hO];kernel_rfl) (.bool true) (fun K9 hK9=>by go_simp;exact hK9) ?_
 (try simp only[pq])
 refine zac (by rw[hO];kernel_rfl) (.bool true) (fun K9 hK9=>by go_simp;exact hK9) ?_
 (try simp only[pq])
 refine zac (by rw[hO];kernel_rfl) (.bool true) (fun K9 hK9=>by go_simp;exact hK9) ?_
 (try simp only[Act.put,pq1,pq2])
 go_wp2
 go_ret
 exact ⟨rfl,tn (uh HS6).gb (uh HG7)⟩
section
variable {u w:World} {F:List Nat} {s d m:Nat} {S:List (List UInt8)} {c g:Nat} {ls:List (List Chg)} {p:Nat} {rs:RSt} (h:StM u w F s d m S c g ls p rs)
include h
theorem zdh:Calls Tryz.prog 17 #[.pointer (some ⟨s,0,none⟩)] w fun x w'=>x = .returned (.int .i64 ((rs.half - rs.used:Nat):Int))∧w.grownBy w' none:=by
 obtain ⟨b1,b2,b3,b4,b5,b6,b7⟩:=h.bnd
 have hle:c*rs.half≤1*rs.half:=Nat.mul_le_mul_right _ b3
 refine (zkl w s d _ _ _ _ _ _ _ h.blk (by omega) (by omega)).mono fun x w' q=>⟨?_,q.2⟩
 rw[q.1,show c*rs.half+rs.half - p=rs.half - rs.used by omega]
theorem zea (hm:rs.moves≤1000000000):Calls Tryz.prog 18 #[.pointer (some ⟨s,0,none⟩)] w fun x w'=>x = .returned (.int .u64 (rs.moves:Int))∧w'=w:=by
 obtain ⟨b1,b2,b3,b4,b5,b6,b7⟩:=h.bnd
 refine (znr w s d _ _ _ _ _ _ _ h.blk (by omega) (by omega)).mono fun x w' q=>⟨?_,q.2⟩
 rw[q.1,show g - 1=rs.moves by omega]
theorem znz (k:List UInt8):((getK rs.V k).getD []).length≤65536:=by
 have hk:=h.on.keys
 generalize rs.V=V at hk
 induction V with
 | nil=>simp[getK]
 | cons y V ih =>
   obtain ⟨a,x⟩:=y
   rw[getK]
   split
   ·exact (hk (a,x) (by simp)).2.2
   ·exact ih fun z hz=>hk z (by simp[hz])
theorem zhn (k:List UInt8):Calls Tryz.prog 25 #[.pointer (some ⟨s,0,none⟩),.string (str k)] w fun x w'=>∃ ao c,x = .returned (.tuple #[.slice ao ((getK rs.V k).getD []).length c,.bool (getK rs.V k).isSome])∧Bts w' ao c ((getK rs.V k).getD [])∧w.grownBy w' none :=
 zns w s d _ _ _ _ _ _ _ h.blk _ _ h.vm k (by have:=znz h k;omega)
theorem zfb (pf:List UInt8) (hl:rs.V.length≤100000):Calls Tryz.prog 20 #[.pointer (some ⟨s,0,none⟩),.string (str pf)] w fun x w'=>∃ ao c,x = .returned (.slice ao (zce rs.V pf).length c)∧Cel w' ao c ((zce rs.V pf).map stv)∧w.grownBy w' none :=
 zo8 w s d _ _ _ _ _ _ _ h.blk _ _ h.vm pf (fun y hy=>(h.on.keys y hy).2.1) hl
theorem zfc (hT:Tabs w) (h8:8≤S.length):Calls Tryz.prog 10 #[.pointer (some ⟨d,0,none⟩)] w fun x w'=>∃ s' m',x = .returned (.tuple #[.pointer (some ⟨s',0,none⟩),.int .i64 0])∧StM u w' F s' d m' S c g ls p rs∧w.grownBy w' none∧w.heap.size≤s' :=
 (znw h.dw h.on hT h.hn h8).mono fun x w' q=>by
  obtain ⟨s',m',q1,q2,q3,q4,-⟩:=q
  exact ⟨s',m',q1,q2,q3,q4⟩
theorem zqi:∀ x∈m::s::F,u.heap.size≤x∧x<w.heap.size:=fun x hx=>by
 simp only[List.mem_cons] at hx
 rcases hx with rfl | rfl | hx
 ·exact ⟨h.mU,h.vm.lt⟩
 ·exact ⟨h.sU,h.blk.lt⟩
 ·exact h.dw.lo x hx
end
theorem zpj {u w:World} {F:List Nat} {d:Nat} {D:Dsk} (h:Dw u w F d D) (hU:D.U.length≤1000000) :
  Calls Tryz.prog 26 #[.pointer (some ⟨d,0,none⟩)] w fun e w'=>∃ d' F',e = .returned (.pointer (some ⟨d',0,none⟩))∧Dw u w' F' d' D∧(∀ x∈F',w.heap.size≤x)∧w.grownBy w' none :=
 (zlt _ w F d D h.at_ hU).mono fun _ _ q=>by
  obtain ⟨d',F',q1,q2,q3⟩:=q
  exact ⟨d',F',q1,⟨q2.lower h.gb.size,tn h.gb q3⟩,fun x hx=>(q2.low x hx).1,q3⟩
structure AgI (rs:RSt) (h k:Nat):Prop where
 half:rs.half=h
 V:rs.V.length≤800*k
 moves:rs.moves≤k
theorem AgI.begin (h:Nat):AgI ⟨[],h,2,0⟩ h 0:=⟨rfl,by simp,by simp⟩
theorem AgI.step {rs:RSt} {h k:Nat} (a:AgI rs h k) {l:List Chg} (hl:l.length≤800):AgI (cmS rs l).1 h (k+1):=by
 obtain ⟨h1,h2,h3⟩:=zp3 rs l
 have h4:=a.V
 have h5:=a.moves
 exact ⟨by rw[h3];exact a.half,by omega,by omega⟩
theorem AgI.more {rs:RSt} {h k:Nat} (a:AgI rs h k):AgI rs h (k+1):=⟨a.half,by have:=a.V;omega,by have:=a.moves;omega⟩
theorem zkp:∀ (V:List (List UInt8 × List UInt8)) (k:List UInt8),k∈zb2 V→(getK V k).isSome=true
 | [],k,h=>by cases h
 | (a,x)::V,k,h=>by
   rw[getK]
   split
   ·rfl
   ·rename_i hne
    refine zkp V k ?_
    simp only[zb2,List.map_cons,List.mem_cons] at h
    rcases h with h | h
    ·exact absurd h.symm hne
    ·exact h
theorem zi2 {V:List (List UInt8 × List UInt8)} {pf k:List UInt8} (h:k∈zce V pf):(getK V k).isSome=true:=zkp V k (List.mem_filter.1 h).1
theorem zn0 (w:World):Nts w none 0 []:=⟨fun _=>⟨rfl,rfl⟩,Nat.le_refl _,Nat.zero_le _,(fun _ e=>by cases e),(fun _ e=>by cases e)⟩
theorem zkq {u w:World} {F:List Nat} {s d m:Nat} {S:List (List UInt8)} {c g:Nat} {ls:List (List Chg)} {p:Nat} {rs:RSt} (h:StM u w F s d m S c g ls p rs) :
  Calls Tryz.prog 23 #[.pointer (some ⟨d,0,none⟩),.slice none 0 0] w fun x w'=>x = .returned (.tuple #[])∧∃ F',StM u w' F' s d m S c g ls p rs∧Fr w w' F :=
 (zq7 h.dw (by simp) none 0 [] (zn0 w) (fun _ e=>by cases e)).mono fun x w' q=>by
  obtain ⟨q1,F',q2,q3,q4⟩:=q
  have q2' : Dw u w' F' d ⟨S,[],-1,false⟩:=q2
  have hs:=h.blk.lt
  have hm:=h.vm.lt
  refine ⟨q1,F',⟨q2',q3.blk h.blk h.sF,?_,h.on,fun hx => ?_,h.sU,fun hx => ?_,h.mU,h.hn⟩,q3⟩
  ·have v1:VmW w m (s::(F++F')) rs.V:=h.vm.more fun x hx=>by
    simp only[List.mem_cons,List.mem_append] at hx ⊢
    rcases hx with hx | hx | hx
    ·exact Or.inl (Or.inl hx)
    ·exact Or.inl (Or.inr hx)
    ·rcases q4 x hx with e | e
     ·exact Or.inl (Or.inr e)
     ·exact Or.inr (Or.inl e)
   exact (v1.fr q3 h.mF (fun x hx=>by simp[hx])).more fun x hx=>by
    simp only[List.mem_cons,List.mem_append] at hx ⊢
    rcases hx with hx | hx
    ·exact Or.inl (Or.inl hx)
    ·exact Or.inl (Or.inr (Or.inr hx))
  ·rcases q4 _ hx with e | e
   ·exact h.sF e
   ·omega
  ·rcases q4 _ hx with e | e
   ·exact h.mF e
   ·omega
end Go.Proofs.YtoilcpdhhlcidaaGreatDoor

/- Lemmas. -/
namespace Go.Proofs.YtoilcpdhhlcidaaGreatDoor
open Go.ChangeShapes Go.WideShapes Go.ChangeAt Go.RowKit Go.Deep
set_option maxRecDepth 100000
end Go.Proofs.YtoilcpdhhlcidaaGreatDoor
