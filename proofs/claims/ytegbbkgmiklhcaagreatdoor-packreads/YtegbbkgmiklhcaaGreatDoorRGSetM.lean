/- Lemmas. -/
import Derived.Test.YtegbbkgmiklhcaaGreatDoorSSumF
import Derived.Test.YtegbbkgmiklhcaaGreatDoorPkA
import Derived.Test.YtegbbkgmiklhcaaGreatDoorMRws
namespace Go.Proofs.YtegbbkgmiklhcaaGreatDoor
open Go.RowKit
set_option maxRecDepth 100000 in
set_option maxHeartbeats 1000000 in
theorem zlc (w:World) (k:Int) (ao:Option Addr) (c:Nat) (d:List UInt8) (hb:Bts w ao c d) (hd:d.length≤35184372088832) (hT:Tabs w):Calls Tryz.prog 17 #[.agg #[.int .i64 k,.slice ao d.length c]] w fun e w'=>e = .returned (.agg ((shaL (putL k d)).map bv).toArray)∧w.grownBy w' none:=by
 obtain ⟨n,hn⟩:∃ n,n=d.length:=⟨_,rfl⟩
 obtain ⟨Z,hZ,hzv⟩:=zd9
 obtain ⟨W0,hW0,hB0,g0⟩:∃ W1,W1=w.alloc (.cells #[.int .i64 k,.slice ao n c] 42)∧Blk W1 w.heap.size 42 [.int .i64 k,.slice ao n c]∧w.grownBy W1 none:=zag w _ _
 obtain ⟨W1,hW1,hB1,g1⟩:∃ W1,W1=W0.alloc (.cells Z 47)∧Blk W1 W0.heap.size 47 Z.toList∧W0.grownBy W1 none:=by
  obtain ⟨W1,h1,h2,h3⟩:=zag W0 47 Z.toList
  exact ⟨W1,by simpa using h1,h2,h3⟩
 have hs0:W0.heap.size=w.heap.size+1:=by rw[hW0];simp
 rw[hs0] at hB1
 have hBo:=hB0.kept g1 (by simp)
 have c0:=hBo.cell 0
 have c1:=hBo.cell 1
 simp only[List.getElem?_cons_zero,List.getElem?_cons_succ] at c0 c1
 have G1:=tn g0 g1
 have cp:=zl7 W1 k ao c d (hb.kept G1 (fun _ e=>by cases e)) hd
 rw[← hn] at cp ⊢
 have hW:W1=(w.alloc (.cells #[.int .i64 k,.slice ao n c] 42)).alloc (.cells Z 47):=by rw[hW1,hW0]
 obtain ⟨HW,HB1⟩:=zh2 hW hB1
 have hT1:=hT.kept0 G1
 have hpl:(putL k d).length<576460752303423488:=by unfold putL layS;simp[zbc];omega
 obtain ⟨P,hP⟩:∃ P,P=putL k d:=⟨_,rfl⟩
 rw[← hP] at cp hpl ⊢
 obtain ⟨S,hS⟩:∃ S,S=(shaL P).map bv:=⟨_,rfl⟩
 have hSl:S.length=32:=by rw[hS,List.length_map];exact zb2 P
 have hSo:S.toArray.all (·.oneCell')=true:=by rw[hS];exact all_oneCell_toArray (za6 _)
 have hiS:(Tryz.prog.info? 47).map (·.size)=some S.toArray.size:=by rw[show S.toArray.size=32 by simpa using hSl];exact zba
 have hZS:Z.toList.toArray.size=S.toArray.size:=by simp[hZ,hSl]
 obtain ⟨HI,HZS,HSO,HS⟩:=zh4 hiS hZS hSo hS
 rw[← hS]
 clear hW hW1 hW0 hB0 hB1 g0 g1 hs0 hBo hb hd hn hT hP hS hSl hSo hiS hZS hZ
 go_enter Tryz.func17,Tryz.ntmps17
 go_wp2_with (rw[← uh HW])
 refine cp.mono ?_
 rintro e w2 ⟨v2,rfl,⟨a2,c2,rfl,hb2,_⟩,g2⟩
 have cs:=zr6 w2 a2 c2 P hb2 (hT1.kept0 g2) hpl
 rw[← uh HS] at cs
 have hB2:=(uh HB1).kept g2 (by simp)
 have G2:=tn G1 g2
 clear cp hb2 c0 c1 hT1 g2
 go_wp2_with fail
 refine cs.mono ?_
 rintro e w3 ⟨rfl,g3⟩
 have hB3:=hB2.kept g3 (by simp)
 clear cs hB2
 go_wp2_with (refine wpList_store_row rfl 47 _ _ rfl (w.heap.size+1) S.toArray rfl rfl _ _ hB3 (uh HI) (uh HZS) (uh HSO) ?_)
 refine bodyPost_ret (results_cell_row rfl _ _ _ _ _ _ _ rfl (hB3.row S) Tryz.underlying47 rfl (uh HI)) rfl ?_
 exact ⟨rfl,zar (tn G2 g3) _ (Or.inl (Nat.le_succ _))⟩
theorem zcy {b:List UInt8} {s:List Ob} (h:PackOf b s):6≤b.length∧b.take 4=[67,80,75,49]∧numS (b.drop 4) 0 2=(s.length,s.flatMap obB,0)∧rdOs s.length (s.flatMap obB) 0=(s,[],0):=by
 have h1:=zha h.ok h.few
 have e:=h.eq
 subst e
 refine ⟨by rw[zr4];omega,zjs.1,h1.1,h1.2⟩
theorem zj1 {b r m:List UInt8} {l:List Ob} {n:Nat} {e f:Int} (hn:numS (b.drop 4) 0 2=(n,m,f)) (hr:rdOs (min n 300) m f=(l,r,e)) (hp:PutP l b 0):PackOf b l:=by
 obtain ⟨s,-,q⟩:=hp.pack
 obtain ⟨-,-,h3,h4⟩:=zcy q
 rw[h3] at hn
 injection hn with e1 e2
 injection e2 with e2 e3
 subst e1 e2 e3
 have hm:min s.length 300=s.length:=by have:=q.few;omega
 rw[hm,h4] at hr
 injection hr with e4
 subst e4
 exact q
theorem zj2 {b r m:List UInt8} {l s:List Ob} {n:Nat} {e f:Int} (q:PackOf b s) (hn:numS (b.drop 4) 0 2=(n,m,f)) (hr:rdOs (min n 300) m f=(l,r,e)):l=s∧r=[]∧e=0:=by
 obtain ⟨-,-,h3,h4⟩:=zcy q
 rw[h3] at hn
 injection hn with e1 e2
 injection e2 with e2 e3
 subst e1 e2 e3
 have hm:min s.length 300=s.length:=by have:=q.few;omega
 rw[hm,h4] at hr
 injection hr with e4 e5
 injection e5 with e5 e6
 exact ⟨e4.symm,e5.symm,e6.symm⟩
def roC (e:ObE):List Value:=[.int .i64 e.k,.string (str e.d)]
theorem zub (e:ObE):∀ u∈roC e,u.oneCell'=true:=by
 intro u hu
 simp only[roC,List.mem_cons,List.not_mem_nil,or_false] at hu
 rcases hu with rfl | rfl <;> rfl
theorem zp6:(Tryz.prog.info? 44).map (fun i=>(i.zero,i.size,i.bytes))=some (some (.agg #[.int .i64 0,.string ⟨#[]⟩]),2,24):=by kernel_rfl
def Rob (w:World) (base:Nat) (v:Value) (L:List ObE):Prop:=w.ownsRow base 44 2 v L.length (L.flatMap roC)
theorem Rob.nil (w:World) (base:Nat):Rob w base (.slice none 0 0) []:=World.ownsRow_nil _ _ _ _
theorem Rob.kept {w a:World} {base:Nat} {v:Value} {L:List ObE} (h:Rob w base v L) (g:w.grownBy a none):Rob a base v L :=
 World.ownsRow.kept h g (by cases v.ownBlock <;> simp)
theorem Rob.rws {w:World} {base:Nat} {v:Value} {L:List ObE} (h:Rob w base v L):∃ ao c,v = .slice ao L.length c∧Rws w 2 roC ao c L∧∀ ad,ao=some ad→base≤ad.block :=
 Rws.own roC h (fun _ _=>rfl)
structure RSet (w:World) (base:Nat) (v1 v2:Value) (S:List ObE):Prop where
 ids:Stg w base v1 (idsS S)
 obs:Rob w base v2 S
theorem RSet.kept {w a:World} {base:Nat} {v1 v2:Value} {S:List ObE} (h:RSet w base v1 v2 S) (g:w.grownBy a none):RSet a base v1 v2 S:=⟨h.ids.kept g,h.obs.kept g⟩
theorem RSet.nil (w:World) (base:Nat):RSet w base (.slice none 0 0) (.slice none 0 0) []:=⟨Stg.nil _ _,Rob.nil _ _⟩
theorem RSet.low {w:World} {b1 b2:Nat} {v1 v2:Value} {S:List ObE} (h:RSet w b1 v1 v2 S) (hb:b2≤b1):RSet w b2 v1 v2 S:=⟨zbs h.ids hb,zbs h.obs hb⟩
theorem zfk {w:World} {ops:Array Oper} {rest:List Oper} {o:Oper} {a:Act} {Q:Exit→Act→World→Prop} (hgd:o.guard=none) (s x:Operand)
  (ho:o.op = .call { callee := .builtin .append,args := #[s,x],argTypes := #[30,30] })
  (base:Nat) (v:Value) (L M:List ObE) (hs:a.eval s=v) (hown:Rob w base v L) (xo:Option Addr) (m c:Nat) (hx:a.eval x = .slice xo m c) (hm:m=M.length) (hM:Rws w 2 roC xo c M) (hn:L.length+M.length≤1000000) (hbase:base≤w.heap.size)
  (h:∀ v' w',Rob w' base v' (L++M)→w.grownBy w' v.ownBlock→wpList Tryz.prog ops Q rest (a.put o.dst v') w'):wpList Tryz.prog ops Q (o::rest) a w:=by
 obtain ⟨i0,hi,hz0,hz1,hz2⟩:=info_parts zp6
 exact wpList_plain hgd fun _ hK=>ze1 s x 30 44 ho i0 _ 2 24 Tryz.underlying30 hi hz0 hz1 hz2 rfl (by decide) roC zub base v L M (fun _ _=>rfl) hs hown xo m c hx hm hM (by omega) (by omega) hbase
  (fun v' w' q1 q2=>hK _ _ (h v' w' q1 q2))
theorem zu4 (k:Int) (s:ByteArray) (V:World):(Instr.buildSlice 30 1 #[(0,.agg #[.int .i64 k,.string s])]).run Tryz.prog V = .ok (.slice (some ⟨V.heap.size,0,none⟩) 1 1) (V.alloc (.cells #[.int .i64 k,.string s] 44)):=by kernel_rfl
theorem Rws.one {α:Type} {w:World} {K:Nat} {f:α→List Value} {b:Nat} {t:TypeId} {x:α} (h:Blk w b t (f x)):Rws w K f (some ⟨b,0,none⟩) 1 [x]:=by
 refine ⟨(fun e=>by cases e),Nat.le_refl _,by unfold maxLen;omega,(fun ad e=>by cases e;rfl),fun ad e i hi => ?_⟩
 cases e
 have hi0:i=0:=by simpa using hi
 subst hi0
 simpa using zas h
end Go.Proofs.YtegbbkgmiklhcaaGreatDoor
