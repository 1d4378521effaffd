/- Lemmas. -/
import Derived.Test.YtoilcpdhhlcidaaGreatDoorMTk
import Derived.Test.YtoilcpdhhlcidaaGreatDoorStG
import Derived.Test.YtoilcpdhhlcidaaGreatDoorMOwn
import Derived.Test.YtoilcpdhhlcidaaGreatDoorMSame
import Derived.Deep.DeepCutAuto
import Derived.Deep.CutBlock
namespace Go.Proofs.YtoilcpdhhlcidaaGreatDoor
open Go.RowKit
set_option maxRecDepth 100000
def kyC (V:List (List UInt8 × List UInt8)):List Value:=V.map fun y => .string (str y.1)
def vlC (V:List (List UInt8 × List UInt8)):List Value:=V.map fun y => .string (str y.2)
def rsC (ko:Option Addr) (kc:Nat) (vo:Option Addr) (vc:Nat) (s:RSt):List Value:=[.slice ko s.V.length kc,.slice vo s.V.length vc,.int .i64 (s.half:Int),.int .i64 (s.used:Int),.int .i64 (s.moves:Int)]
structure RsW (w:World) (ko:Option Addr) (kc:Nat) (vo:Option Addr) (vc:Nat) (s:RSt):Prop where
 keys:Cel w ko kc (kyC s.V)
 vals:Cel w vo vc (vlC s.V)
theorem RsW.kept {w a:World} {ko:Option Addr} {kc:Nat} {vo:Option Addr} {vc:Nat} {s:RSt} (h:RsW w ko kc vo vc s) (g:w.grownBy a none):RsW a ko kc vo vc s:=⟨h.keys.kept g,h.vals.kept g⟩
theorem zas:(Tryz.prog.info? 32).map (·.size)=some 5:=by kernel_rfl
theorem zpe:(Tryz.prog.info? 85).map (fun i=>(i.zero,i.size,i.bytes))=some (some (.agg #[.string ⟨#[]⟩,.string ⟨#[]⟩,.bool false]),3,40):=by kernel_rfl
theorem zqn (a b:ByteArray) (g:Bool) (V:World):(Instr.buildSlice 40 1 #[(0,.agg #[.string a,.string b,.bool g])]).run Tryz.prog V = .ok (.slice (some ⟨V.heap.size,0,none⟩) 1 1) (V.alloc (.cells #[.string a,.string b,.bool g] 85)):=by kernel_rfl
theorem zm3 (a b:ByteArray):Tryz.prog.built 85 [(0,.string a),(1,.string b)]=some #[.string a,.string b,.bool false]:=by kernel_rfl
theorem zdc {w:World} {ops:Array Oper} {o:Oper} {a:Act} {K:Act→World→Prop} {Q:Exit→Act→World→Prop} {E:Prop} (hw:Region.wanted o (yielded ops a.tmps)=true) (s x:Operand)
  (ho:o.op = .call { callee := .builtin .append,args := #[s,x],argTypes := #[40,40] })
  (base:Nat) (v:Value) (L M:List Chg) (hs:a.eval s=v) (hown:w.ownsRow base 85 3 v L.length (L.flatMap crC)) (xo:Option Addr) (m c:Nat) (hx:a.eval x = .slice xo m c) (hm:m=M.length) (hM:Rws w 3 crC xo c M)
  (hn:L.length+M.length≤2000000) (hbase:base≤w.heap.size)
  (h:∀ v' w',w'.ownsRow base 85 3 v' (L++M).length ((L++M).flatMap crC)→w.grownBy w' v.ownBlock→K (a.put o.dst v') w'):if Region.wanted o (yielded ops a.tmps)=true then Oper.wp Tryz.prog o a w K Q else E:=by
 rw[if_pos hw]
 obtain ⟨i0,hi,hz0,hz1,hz2⟩:=info_parts zpe
 exact zb8 s x 40 85 ho i0 _ 3 40 Tryz.underlying40 hi hz0 hz1 hz2 rfl (by decide) crC zqz base v L M (fun _ _=>rfl) hs hown xo m c hx hm hM (by omega) (by omega) hbase h
theorem zm4 {w:World} {p:Nat} {x:Chg} (h:Blk w p 85 (crC x)):Rws w 3 crC (some ⟨p,0,none⟩) 1 [x] :=
 ⟨(fun e=>by cases e),Nat.le_refl _,by unfold maxLen;decide,(fun ad e=>by cases e;rfl),fun ad e i hi=>by
   cases e
   have hi0:i=0:=by simpa using hi
   subst hi0
   simpa using zan h⟩
theorem zds (V:List (List UInt8 × List UInt8)):(allC V).length=V.length:=by simp[allC]
set_option maxHeartbeats 4000000 in
theorem zpf (w:World) (ko:Option Addr) (kc:Nat) (vo:Option Addr) (vc:Nat) (s:RSt) (h:RsW w ko kc vo vc s) (hn:s.V.length≤1000000) :
  Calls Tryz.prog 35 #[.agg (rsC ko kc vo vc s).toArray] w fun e w'=>∃ ao c,e = .returned (.slice ao s.V.length c)∧Rws w' 3 crC ao c (allC s.V)∧(∀ ad,ao=some ad→w.heap.size≤ad.block)∧w.grownBy w' none:=by
 obtain ⟨n,hnn⟩:∃ n,n=s.V.length:=⟨_,rfl⟩
 obtain ⟨h1,hh1⟩:∃ z:Int,z=(s.half:Int):=⟨_,rfl⟩
 obtain ⟨h2,hh2⟩:∃ z:Int,z=(s.used:Int):=⟨_,rfl⟩
 obtain ⟨h3,hh3⟩:∃ z:Int,z=(s.moves:Int):=⟨_,rfl⟩
 have e0:rsC ko kc vo vc s=[.slice ko n kc,.slice vo n vc,.int .i64 h1,.int .i64 h2,.int .i64 h3]:=by rw[hnn,hh1,hh2,hh3];rfl
 rw[e0,← hnn]
 obtain ⟨W1,hW1,hB1,g1⟩:=zah w 32 [.slice ko n kc,.slice vo n vc,.int .i64 h1,.int .i64 h2,.int .i64 h3]
 have HW1:=hide (show W1=w.alloc (.cells #[.slice ko n kc,.slice vo n vc,.int .i64 h1,.int .i64 h2,.int .i64 h3] 32) from hW1)
 have s1:W1.heap.size=w.heap.size+1:=by rw[hW1,World.size_alloc]
 have c0:=hB1.cell 0
 have c1:=hB1.cell 1
 simp only[List.getElem?_cons_zero,List.getElem?_cons_succ] at c0 c1
 obtain ⟨HC0,HC1⟩:=zh2 c0 c1
 have HR:=hide (h.kept g1)
 obtain ⟨HG1,HN,HS1⟩:=zh3 g1 hnn s1
 have hn1:n≤1000000:=by omega
 clear hW1 hB1 g1 h hnn e0 hn s1 hh1 hh2 hh3
 go_enter Tryz.func35,Tryz.ntmps35
 go_wp2_with (rw[← uh HW1])
 go_loopw [3,4] (fun v i wr=>∃ j:Nat,i = .int .i64 j∧j≤n∧Hid (wr.ownsRow W1.heap.size 85 3 v j ((allC (s.V.take j)).flatMap crC)∧W1.grownBy wr none)) (fun _ i _=>n - (intOf i).toNat)
 case atStart=>exact ⟨0,rfl,Nat.zero_le _,World.ownsRow_nil _ _ _ _,zac _ _⟩
 case round =>
  obtain ⟨j,rfl,hj,HJ⟩:=hrel
  have hcr:=(uh HJ).2.cell (uh HC0) (by simp)
  by_cases hlt:j<n
  ·have hji:(j:Int)<(n:Int):=by omega
   have hjw:IntKind.i64.wrap ((j:Int)+1)=(j:Int)+1:=by rw[IntKind.wrap_i64];omega
   have hjl:j<s.V.length:=by rw[← uh HN];exact hlt
   obtain ⟨kb,kz,hko,hk⟩:=(uh HR).keys.at j (by unfold kyC;rw[List.length_map];exact hjl)
   obtain ⟨vb,vz,hvo,hv⟩:=(uh HR).vals.at j (by unfold vlC;rw[List.length_map];exact hjl)
   obtain ⟨a,ha⟩:∃ a,a=s.V[j].1:=⟨_,rfl⟩
   obtain ⟨x,hx⟩:∃ a,a=s.V[j].2:=⟨_,rfl⟩
   obtain ⟨TK,hTK⟩:∃ T,T=str a:=⟨_,rfl⟩
   obtain ⟨TV,hTV⟩:∃ T,T=str x:=⟨_,rfl⟩
   have hk2:W1.cell? ⟨kb,kz+j,none⟩=some (.string TK):=by rw[hk];unfold kyC;rw[List.getElem_map,hTK,ha]
   have hv2:W1.cell? ⟨vb,vz+j,none⟩=some (.string TV):=by rw[hv];unfold vlC;rw[List.getElem_map,hTV,hx]
   have hta:allC (s.V.take (j+1))=allC (s.V.take j)++[⟨a,x,false⟩]:=by
    rw[List.take_succ_eq_append_getElem hjl]
    unfold allC
    rw[List.map_append,ha,hx]
    rfl
   obtain ⟨W3,hW3,hB3,g3⟩:=zah wr.drew 85 [.string TK,.string TV,.bool false]
   have hlen:(allC (s.V.take j)).length=j:=by rw[zds,List.length_take];omega
   have ho3:=World.ownsRow.kept (World.ownsRow.kept (uh HJ).1 (zaa (zac wr none)) (Classical.em _)) g3 (Classical.em _)
   have HO3:=hide (show W3.ownsRow W1.heap.size 85 3 u3 (allC (s.V.take j)).length ((allC (s.V.take j)).flatMap crC) by rw[hlen];exact ho3)
   have HM3:=hide (show Rws W3 3 crC (some ⟨wr.heap.size,0,none⟩) 1 [⟨a,x,false⟩] from zm4 (by unfold crC;rw[← hTK,← hTV];exact hB3))
   have HW3:=hide (show W3=wr.drew.alloc (.cells #[.string TK,.string TV,.bool false] 85) from hW3)
   have HG:=hide (uh HJ).2
   have HG3:=hide (tn (zaa (uh HJ).2) g3)
   have HS3:=hide (Nat.le_trans (uh HJ).2.size (show wr.heap.size≤W3.heap.size from g3.size))
   have HJ1:=hide (show (allC (s.V.take j)).length+[(⟨a,x,false⟩:Chg)].length≤2000000 by rw[hlen];simp;omega)
   have HTA:=hide hta
   have HLN:=hide (show (allC (s.V.take j)++[(⟨a,x,false⟩:Chg)]).length=j+1 by rw[List.length_append,hlen];rfl)
   obtain ⟨HK,HV⟩:=zh2 hk2 hv2
   have hbs:=zqn TK TV false
   have hbt:=zm3 TK TV
   clear hk hv ha hx hTK hTV hk2 hv2 hta hW3 hB3 g3 hlen ho3 HJ hjl
   subst hko hvo
   go_upto_region 5 with fail
   refine wp_region_noPanic ?_
   refine wp_region_held_drew (S:=fun V=>W1.grownBy V none) (by kernel_rfl) (zaa (uh HG)) (fun _ => ?_)
   refine tq 0 12 (.move (.tmp 3)) ((u3)) (zaa (uh HG)) ?_
   refine tq 1 13 (.fieldAddr 32 (.tmp 1) 0) ((.pointer (some ⟨w.heap.size,0,none⟩))) (zaa (uh HG)) ?_
   refine tz 2 14 (.load 30 (.tmp 13)) ((.slice (some ⟨kb,kz,none⟩) n kc)) (zaa (uh HG)) ?_ (y:=(Or.inl ⟨by rfl,fun V hV=>by (have hv1:=hV.cell (uh HC0) (by simp);go_simp)⟩))
   refine tq 3 15 (.move (.tmp 4)) ((.int .i64 (j:Int))) (zaa (uh HG)) ?_
   (try simp only[pq])
   refine tq 4 16 (.indexAddr 30 (.tmp 14) (.tmp 15)) ((.pointer (some ⟨kb,kz+j,none⟩))) (zaa (uh HG)) ?_
   refine tz 5 17 (.load 9 (.tmp 16)) ((.string TK)) (zaa (uh HG)) ?_ (y:=(Or.inl ⟨by rfl,fun V hV=>by (have hv1:=hV.cell (uh HK) (by simp);go_simp)⟩))
   refine tq 6 18 (.fieldAddr 32 (.tmp 1) 1) ((.pointer (some ⟨w.heap.size,1,none⟩))) (zaa (uh HG)) ?_
   refine tz 7 19 (.load 30 (.tmp 18)) ((.slice (some ⟨vb,vz,none⟩) n vc)) (zaa (uh HG)) ?_ (y:=(Or.inl ⟨by rfl,fun V hV=>by (have hv1:=hV.cell (uh HC1) (by simp);go_simp)⟩))
   (try simp only[pq])
   refine tq 8 20 (.move (.tmp 4)) ((.int .i64 (j:Int))) (zaa (uh HG)) ?_
   refine tq 9 21 (.indexAddr 30 (.tmp 19) (.tmp 20)) ((.pointer (some ⟨vb,vz+j,none⟩))) (zaa (uh HG)) ?_
   refine tz 10 22 (.load 9 (.tmp 21)) ((.string TV)) (zaa (uh HG)) ?_ (y:=(Or.inl ⟨by rfl,fun V hV=>by (have hv1:=hV.cell (uh HV) (by simp);go_simp)⟩))
   refine tz 11 23 (.build 85 #[(0,(.tmp 17)),(1,(.tmp 22))]) ((.agg #[.string TK,.string TV,.bool false])) (zaa (uh HG)) ?_ (y:=(zb4 (by rfl) _ _ rfl _ (Eq.trans (b:=Tryz.prog.built 85 [(0,.string TK),(1,.string TV)]) (by kernel_rfl) hbt)))
   (try simp only[pq])
   refine rdq 12 (some 24) (.buildSlice 40 1 #[(0,(.tmp 23))]) (fun K9 hK9 => ?_)
   refine zb3 (by rfl) 40 _ rfl (.agg #[.string TK,.string TV,.bool false]) _ rfl (hbs _) ?_
   rw[← uh HW3]
   refine hK9.out _ _ (uh HG3) (fun _ => ?_)
   clear hK9 K9
   (try simp only[pq])
   refine rdq 13 (some 25) (.call { callee := .builtin .append,args := #[(.tmp 12),(.tmp 24)],argTypes := #[40,40] }) (fun K9 hK9 => ?_)
   refine zdc (by rfl) _ _ rfl W1.heap.size u3 (allC (s.V.take j)) [⟨a,x,false⟩] rfl (uh HO3) (some ⟨wr.heap.size,0,none⟩) 1 1 rfl rfl (uh HM3) (uh HJ1) (uh HS3) ?_
   intro v5 w5 ho5 g5
   have HO5:=hide ho5
   have HG5:=hide (zae (uh HG3) g5 (fun y e=>Or.inl ((uh HO3).lt y e).1))
   clear ho5 g5
   refine hK9.out _ _ (uh HG5) (fun _ => ?_)
   clear hK9 K9
   refine tq 14 3 (.assign (.tmp 25)) v5 (uh HG5) ?_
   (try simp only[pq])
   refine wpAnyH_done (by kernel_rfl) ?_ _
   refine NoPanic.normal ?_
   go_wp2
   go_roundw
   case rel=>exact ⟨j+1,by go_num,by omega,by have:=uh HO5;rw[uh HLN,← uh HTA] at this;exact this,uh HG5⟩
   case measure=>simp[intOf];omega
  ·have hji:¬ (j:Int)<(n:Int):=by omega
   have hall:s.V.take j=s.V:=List.take_of_length_le (by have:=uh HN;omega)
   have hjn:j=n:=by omega
   have ho:=(uh HJ).1
   rw[hall] at ho
   have el:(allC s.V).length=j:=by rw[zds,← uh HN,hjn]
   obtain ⟨ao,c,e1,e2,e3⟩:=Rws.own crC (L:=allC s.V) (by rw[el];exact ho) (fun _ _=>rfl)
   rw[el] at e1
   have HF:=hide (And.intro e2 (And.intro e3 (tn (uh HG1) (uh HJ).2)))
   subst e1
   clear ho e2 e3 el hall HJ
   go_wp2
   go_ret
   refine ⟨ao,c,rfl,(uh HF).1,fun ad e => ?_,(uh HF).2.2⟩
   have:=(uh HF).2.1 ad e
   have:=uh HS1
   omega
structure ChI where
 key:List UInt8
 bo:Option Addr
 bc:Nat
 val:List UInt8
 gone:Bool
deriving Inhabited
def ciC (x:ChI):List Value:=[.string (str x.key),.slice x.bo x.val.length x.bc,.bool x.gone]
def ChI.chg (x:ChI):Chg:=⟨x.key,x.val,x.gone⟩
structure RwO {α:Type} (w:World) (K:Nat) (f:α→List Value) (ao:Option Addr) (c:Nat) (L:List α):Prop where
 zip:ao=none→L.length=0∧c=0
 fits:L.length≤c
 most:c≤maxLen
 spot:∀ ad,ao=some ad→0<L.length→ad.spot=none
 row:∀ ad,ao=some ad→∀ i (h:i<L.length),w.rangeAt ad.block (ad.off+i*K) (f L[i])
theorem RwO.kept {α:Type} {w a:World} {K:Nat} {f:α→List Value} {ao:Option Addr} {c:Nat} {L:List α} (h:RwO w K f ao c L) (g:w.grownBy a none):RwO a K f ao c L :=
 ⟨h.zip,h.fits,h.most,h.spot,fun ad e i hi=>zak (h.row ad e i hi) g (by simp)⟩
theorem RwO.at {α:Type} {w:World} {K:Nat} {f:α→List Value} {ao:Option Addr} {c:Nat} {L:List α} (h:RwO w K f ao c L) (i:Nat) (hi:i<L.length):∃ b o,ao=some ⟨b,o,none⟩∧w.rangeAt b (o+i*K) (f L[i]):=by
 cases ao with
 | none=>have:=(h.zip rfl).1;omega
 | some ad =>
   have hs:=h.spot ad rfl (by omega)
   have hc:=h.row ad rfl i hi
   obtain ⟨b,o,s⟩:=ad
   simp only at hs hc
   subst hs
   exact ⟨b,o,rfl,hc⟩
theorem Rws.o {α:Type} {w:World} {K:Nat} {f:α→List Value} {ao:Option Addr} {c:Nat} {L:List α} (h:Rws w K f ao c L):RwO w K f ao c L:=⟨h.zip,h.fits,h.most,fun ad e _=>h.spot ad e,h.row⟩
instance {α:Type} {w:World} {K:Nat} {f:α→List Value} {ao:Option Addr} {c:Nat} {L:List α} : Coe (Rws w K f ao c L) (RwO w K f ao c L):=⟨Rws.o⟩
structure CsI (w:World) (ao:Option Addr) (c:Nat) (L:List ChI):Prop where
 row:RwO w 3 ciC ao c L
 val:∀ x∈L,Bts w x.bo x.bc x.val
theorem CsI.kept {w a:World} {ao:Option Addr} {c:Nat} {L:List ChI} (h:CsI w ao c L) (g:w.grownBy a none):CsI a ao c L:=⟨h.row.kept g,fun x hx=>(h.val x hx).kept g (fun _ e=>by cases e)⟩
theorem zlp (a b:ByteArray) (g:Bool):Tryz.prog.built 85 [(0,.string a),(1,.string b),(2,.bool g)]=some #[.string a,.string b,.bool g]:=by kernel_rfl
set_option maxHeartbeats 8000000 in
theorem zlq (w:World) (ao:Option Addr) (ac:Nat) (L:List ChI) (h:CsI w ao ac L) (hl:L.length≤1000000) :
  Calls Tryz.prog 14 #[.slice ao L.length ac] w fun e w'=>∃ bo bc,e = .returned (.slice bo (L.take 5000).length bc)∧Rws w' 3 crC bo bc ((L.map ChI.chg).take 5000)∧(∀ ad,bo=some ad→w.heap.size≤ad.block)∧w.grownBy w' none:=by
 obtain ⟨n,hn⟩:∃ n,n=L.length:=⟨_,rfl⟩
 rw[← hn]
 obtain ⟨HN,H⟩:=zh2 hn h
 have hn1:n≤1000000:=by omega
 clear hn h hl
 have fin:∀ (wr:World) (v:Value) (j:Nat),j≤n→(j=n∨j=5000)→j≤5000→wr.ownsRow w.heap.size 85 3 v j (((L.take j).map ChI.chg).flatMap crC)→w.grownBy wr none →
   ∃ bo bc,v = .slice bo (L.take 5000).length bc∧Rws wr 3 crC bo bc ((L.map ChI.chg).take 5000)∧(∀ ad,bo=some ad→w.heap.size≤ad.block)∧w.grownBy wr none:=fun wr v j hj he h5 ho hg=>by
  have e1:L.take j=L.take 5000:=by
   have:=uh HN
   rcases he with he | he
   ·rw[List.take_of_length_le (by omega),List.take_of_length_le (by omega)]
   ·rw[he]
  have e2:((L.take 5000).map ChI.chg).length=j:=by
   have:=uh HN
   rw[List.length_map,List.length_take]
   omega
  rw[e1] at ho
  obtain ⟨bo,bc,q1,q2,q3⟩:=Rws.own crC (L:=(L.take 5000).map ChI.chg) (by rw[e2];exact ho) (fun _ _=>rfl)
  rw[List.length_map] at q1
  exact ⟨bo,bc,q1,by rw[← List.map_take];exact q2,q3,hg⟩
 have HFI:=hide fin
 clear fin
 go_enter Tryz.func14,Tryz.ntmps14
 go_wp2
 go_loopw [3,4] (fun v i wr=>∃ j:Nat,i = .int .i64 j∧j≤n∧j≤5000∧Hid (wr.ownsRow w.heap.size 85 3 v j (((L.take j).map ChI.chg).flatMap crC)∧w.grownBy wr none)) (fun _ i _=>n - (intOf i).toNat)
 case atStart=>exact ⟨0,rfl,Nat.zero_le _,Nat.zero_le _,World.ownsRow_nil _ _ _ _,zac _ _⟩
 case round =>
  obtain ⟨j,rfl,hj,hj5,HJ⟩:=hrel
  by_cases hlt:j<n
  ·have hji:(j:Int)<(n:Int):=by omega
   have hjd:decide ((j:Int)<(n:Int))=true:=decide_eq_true hji
   by_cases h5:j<5000
   ·have h5i:(j:Int)<5000:=by omega
    have hjw:IntKind.i64.wrap ((j:Int)+1)=(j:Int)+1:=by rw[IntKind.wrap_i64];omega
    have hjl:j<L.length:=by rw[← uh HN];exact hlt
    obtain ⟨b,o,hao,hrow⟩:=(uh H).row.at j hjl
    have hbv:=(uh H).val _ (List.getElem_mem hjl)
    obtain ⟨x,hx⟩:∃ x,x=L[j]:=⟨_,rfl⟩
    rw[← hx] at hrow hbv
    obtain ⟨TK,hTK⟩:∃ T,T=str x.key:=⟨_,rfl⟩
    obtain ⟨TV,hTV⟩:∃ T,T=str x.val:=⟨_,rfl⟩
    obtain ⟨nv,hnv⟩:∃ n,n=x.val.length:=⟨_,rfl⟩
    have q0:w.cell? ⟨b,o+j*3,none⟩=some (.string TK):=by have:=hrow 0 _ rfl;rw[hTK];simpa using this
    have q1:w.cell? ⟨b,o+j*3+1,none⟩=some (.slice x.bo nv x.bc):=by have:=hrow 1 _ rfl;rw[hnv];exact this
    have q2:w.cell? ⟨b,o+j*3+2,none⟩=some (.bool x.gone):=hrow 2 _ rfl
    have hcv:∀ V,w.grownBy V none→(convert 53 9 (.slice x.bo nv x.bc)).run Tryz.prog V = .ok (.string TV) V:=fun V hV=>by rw[hTV,hnv];exact zb7 (hbv.kept hV (fun _ e=>by cases e))
    have hta:(L.take (j+1)).map ChI.chg=(L.take j).map ChI.chg++[x.chg]:=by rw[List.take_succ_eq_append_getElem hjl,List.map_append,← hx];rfl
    obtain ⟨W3,hW3,hB3,g3⟩:=zah wr.drew 85 [.string TK,.string TV,.bool x.gone]
    have hlen:((L.take j).map ChI.chg).length=j:=by rw[List.length_map,List.length_take];omega
    have ho3:=World.ownsRow.kept (World.ownsRow.kept (uh HJ).1 (zaa (zac wr none)) (Classical.em _)) g3 (Classical.em _)
    have HO3:=hide (show W3.ownsRow w.heap.size 85 3 u3 ((L.take j).map ChI.chg).length (((L.take j).map ChI.chg).flatMap crC) by rw[hlen];exact ho3)
    have HM3:=hide (show Rws W3 3 crC (some ⟨wr.heap.size,0,none⟩) 1 [x.chg] from zm4 (by unfold crC ChI.chg;rw[← hTK,← hTV];exact hB3))
    have HW3:=hide (show W3=wr.drew.alloc (.cells #[.string TK,.string TV,.bool x.gone] 85) from hW3)
    have HG:=hide (uh HJ).2
    have HG3:=hide (tn (zaa (uh HJ).2) g3)
    have HS3:=hide (Nat.le_trans (uh HJ).2.size (show wr.heap.size≤W3.heap.size from g3.size))
    have HJ1:=hide (show ((L.take j).map ChI.chg).length+[x.chg].length≤2000000 by rw[hlen];simp;omega)
    have HTA:=hide hta
    have HLN:=hide (show ((L.take j).map ChI.chg++[x.chg]).length=j+1 by rw[List.length_append,hlen];rfl)
    obtain ⟨HK,HV,HGN,HCV⟩:=zh4 q0 q1 q2 hcv
    have hbs:=zqn TK TV x.gone
    have hbt:=zlp TK TV x.gone
    clear hrow hbv hx hTK hTV hnv q0 q1 q2 hcv hta hW3 hB3 g3 hlen ho3 HJ hjl
    subst hao
    go_upto_region 5 with fail
    refine wp_region_noPanic ?_
    refine wp_region_held_drew (S:=fun V=>w.grownBy V none) (by kernel_rfl) (zaa (uh HG)) (fun _ => ?_)
    refine tq 0 15 (.move (.tmp 3)) ((u3)) (zaa (uh HG)) ?_
    refine tq 1 16 (.move (.tmp 0)) ((.slice (some ⟨b,o,none⟩) n ac)) (zaa (uh HG)) ?_
    refine tq 2 17 (.move (.tmp 4)) ((.int .i64 (j:Int))) (zaa (uh HG)) ?_
    refine tq 3 18 (.indexAddr 34 (.tmp 16) (.tmp 17)) ((.pointer (some ⟨b,o+j*3,none⟩))) (zaa (uh HG)) ?_
    (try simp only[pq])
    refine tq 4 19 (.fieldAddr 55 (.tmp 18) 0) ((.pointer (some ⟨b,o+j*3,none⟩))) (zaa (uh HG)) ?_
    refine tz 5 20 (.load 9 (.tmp 19)) ((.string TK)) (zaa (uh HG)) ?_ (y:=(Or.inl ⟨by rfl,fun V hV=>by (have hv1:=hV.cell (uh HK) (by simp);go_simp)⟩))
    refine tq 6 21 (.move (.tmp 0)) ((.slice (some ⟨b,o,none⟩) n ac)) (zaa (uh HG)) ?_
    refine tq 7 22 (.move (.tmp 4)) ((.int .i64 (j:Int))) (zaa (uh HG)) ?_
    (try simp only[pq])
    refine tq 8 23 (.indexAddr 34 (.tmp 21) (.tmp 22)) ((.pointer (some ⟨b,o+j*3,none⟩))) (zaa (uh HG)) ?_
    refine tq 9 24 (.fieldAddr 55 (.tmp 23) 1) ((.pointer (some ⟨b,o+j*3+1,none⟩))) (zaa (uh HG)) ?_
    refine tz 10 25 (.load 53 (.tmp 24)) ((.slice x.bo nv x.bc)) (zaa (uh HG)) ?_ (y:=(Or.inl ⟨by rfl,fun V hV=>by (have hv1:=hV.cell (uh HV) (by simp);go_simp)⟩))
    refine tz 11 26 (.convert 53 9 (.tmp 25)) ((.string TV)) (zaa (uh HG)) ?_ (y:=(Or.inl ⟨by rfl,fun V hV=>by (have hv1:=uh HCV V hV;go_simp)⟩))
    (try simp only[pq])
    refine tq 12 27 (.move (.tmp 0)) ((.slice (some ⟨b,o,none⟩) n ac)) (zaa (uh HG)) ?_
    refine tq 13 28 (.move (.tmp 4)) ((.int .i64 (j:Int))) (zaa (uh HG)) ?_
    refine tq 14 29 (.indexAddr 34 (.tmp 27) (.tmp 28)) ((.pointer (some ⟨b,o+j*3,none⟩))) (zaa (uh HG)) ?_
    refine tq 15 30 (.fieldAddr 55 (.tmp 29) 2) ((.pointer (some ⟨b,o+j*3+2,none⟩))) (zaa (uh HG)) ?_
    (try simp only[pq])
    refine tz 16 31 (.load 4 (.tmp 30)) ((.bool x.gone)) (zaa (uh HG)) ?_ (y:=(Or.inl ⟨by rfl,fun V hV=>by (have hv1:=hV.cell (uh HGN) (by simp);go_simp)⟩))
    refine tz 17 32 (.build 85 #[(0,(.tmp 20)),(1,(.tmp 26)),(2,(.tmp 31))]) ((.agg #[.string TK,.string TV,.bool x.gone])) (zaa (uh HG)) ?_ (y:=(zb4 (by rfl) _ _ rfl _ (Eq.trans (b:=Tryz.prog.built 85 [(0,.string TK),(1,.string TV),(2,.bool x.gone)]) (by kernel_rfl) hbt)))
    (try simp only[pq])
    refine rdq 18 (some 33) (.buildSlice 40 1 #[(0,(.tmp 32))]) (fun K9 hK9 => ?_)
    refine zb3 (by rfl) 40 _ rfl (.agg #[.string TK,.string TV,.bool x.gone]) _ rfl (hbs _) ?_
    rw[← uh HW3]
    refine hK9.out _ _ (uh HG3) (fun _ => ?_)
    clear hK9 K9
    (try simp only[pq])
    refine rdq 19 (some 34) (.call { callee := .builtin .append,args := #[(.tmp 15),(.tmp 33)],argTypes := #[40,40] }) (fun K9 hK9 => ?_)
    refine zdc (by rfl) _ _ rfl w.heap.size u3 ((L.take j).map ChI.chg) [x.chg] rfl (uh HO3) (some ⟨wr.heap.size,0,none⟩) 1 1 rfl rfl (uh HM3) (uh HJ1) (uh HS3) ?_
    intro v5 w5 ho5 g5
    have HO5:=hide ho5
    have HG5:=hide (zae (uh HG3) g5 (fun y e=>Or.inl ((uh HO3).lt y e).1))
    clear ho5 g5
    refine hK9.out _ _ (uh HG5) (fun _ => ?_)
    clear hK9 K9
    refine tq 20 3 (.assign (.tmp 34)) v5 (uh HG5) ?_
    (try simp only[pq])
    refine wpAnyH_done (by kernel_rfl) ?_ _
    refine NoPanic.normal ?_
    go_wp2
    go_roundw
    case rel=>exact ⟨j+1,by go_num,by omega,by omega,by have:=uh HO5;rw[uh HLN,← uh HTA] at this;exact this,uh HG5⟩
    case measure=>simp[intOf];omega
   ·have h5i:¬ (j:Int)<5000:=by omega
    obtain ⟨bo,bc,q1,q2⟩:=uh HFI wr u3 j hj (Or.inr (by omega)) hj5 (uh HJ).1 (uh HJ).2
    have HQ:=hide q2
    subst q1
    clear q2 HJ
    go_wp2
    go_ret
    exact ⟨bo,bc,rfl,uh HQ⟩
  ·have hji:¬ (j:Int)<(n:Int):=by omega
   have hjd:decide ((j:Int)<(n:Int))=false:=decide_eq_false hji
   obtain ⟨bo,bc,q1,q2⟩:=uh HFI wr u3 j hj (Or.inl (by omega)) hj5 (uh HJ).1 (uh HJ).2
   have HQ:=hide q2
   subst q1
   clear q2 HJ
   go_wp2
   go_ret
   exact ⟨bo,bc,rfl,uh HQ⟩
end Go.Proofs.YtoilcpdhhlcidaaGreatDoor
