/- Lemmas. -/
import Derived.Lib.AppendZerosOnto
import Derived.Test.YtoilcpdhhlcidaaGreatDoorSpD
import Derived.Test.YtoilcpdhhlcidaaGreatDoorSpCt
import Derived.Test.YtoilcpdhhlcidaaGreatDoorMMsk
import Derived.Laws.MakeOwn
import Derived.Lib.SlBytesConst
namespace Go.Proofs.YtoilcpdhhlcidaaGreatDoor
open Go.RowKit
theorem zgh (k:Nat):(Builtin.zeroCells (Value.int IntKind.u8 0).cells k).toList=List.replicate k (Value.int .u8 0):=by
 have h:(Value.int IntKind.u8 0).cells = #[.int .u8 0]:=rfl
 rw[h]
 unfold Builtin.zeroCells
 apply List.ext_getElem?
 intro i
 simp only[Array.toList_map,Array.toList_range,List.getElem?_map]
 by_cases hi:i<k
 ·simp[hi,Nat.mod_one]
 ·simp[hi]
theorem zjd (w:World) (base:Nat) (g n cap:Nat) (xs:List Value) (k:Nat) (h0:0<k) (hown:w.ownsRow base 5 1 (.slice (some ⟨g,0,none⟩) n cap) n xs) (hn:n+k≤1000000) (hbase:base≤w.heap.size) (ty:TypeId) :
  ∃ v' w',(Builtin.append_ #[53,3] ty #[.slice (some ⟨g,0,none⟩) n cap,.int .i64 k]).run Tryz.prog w = .ok v' w'∧w'.ownsRow base 5 1 v' (n+k) (xs++List.replicate k (Value.int .u8 0))∧w.grownBy w' (some g):=by
 obtain ⟨i0,hi,hz0,hz1,hz2⟩:=info_parts zb5
 rcases hown.2 with ⟨h1,_⟩ | ⟨g',cap',cur,h1,hbg,hg,hnc,hcm,hcs,htake⟩
 ·cases h1
 injection h1 with h1 _ h3
 injection h1 with h1
 injection h1 with h1
 subst h1 h3
 have hxl:xs.length=n:=by have:=hown.1;simpa using this
 have hzl:(List.replicate k (Value.int .u8 0)).length=k:=List.length_replicate ..
 by_cases hroom:n+k≤cap
 ·have hz:(Builtin.zeroCells (Value.int IntKind.u8 0).cells k).toList=List.replicate k (Value.int .u8 0):=zgh k
  have hst:=run_storeCells_at Tryz.prog g n 5 (List.replicate k (Value.int .u8 0)) 0 cur w hg (by rw[hzl];omega) (fun u hu=>by rw[(List.mem_replicate.1 hu).2];rfl)
  have hkw:IntKind.i64.wrap (k:Int)=k:=by rw[IntKind.wrap_i64];omega
  have hneg:¬ ((k:Int)<0):=by omega
  have h48:¬ (281474976710656<(k:Int)*(i0.bytes:Int)):=by rw[hz2];omega
  have hk:k≠0:=by omega
  refine ⟨.slice (some ⟨g,0,none⟩) (n+k) cap,w.setRow g (cur.toList.take n++List.replicate k (Value.int .u8 0)++cur.toList.drop (n+k)).toArray,?_,⟨by rw[List.length_append,hxl,hzl];omega,Or.inr ⟨g,cap,_,rfl,hbg,setRow_heap w g cur _ 5 _ hg,hroom,hcm,?_,?_⟩⟩,⟨rfl,rfl,rfl,by simp,fun j hj hne=>setRow_other w g j _ (fun e=>hne (by rw[e]))⟩⟩
  ·simp only[Nat.add_zero,hzl] at hst
   simp[Builtin.append_,run_underlying Tryz.underlying53,run_underlying Tryz.underlying3,sizeOf,typeInfo,zeroValue,hi,hz0,hz1,asInt,asIntOf,hkw,hneg,h48,hk,hroom,hz,Addr.add_lit,hst]
  ·simp only[List.size_toArray,List.length_append,List.length_take,List.length_drop,List.length_replicate,Array.length_toList]
   omega
  ·have e1:cur.toList.take n=xs:=by rw[← htake];simp
   have hcl:(cur.toList.take n).length=n:=by rw[List.length_take,Array.length_toList];omega
   rw[e1,Nat.mul_one]
   simp only[List.append_assoc]
   rw[← List.append_assoc,show n+k=(xs++List.replicate k (Value.int .u8 0)).length by rw[List.length_append,hxl,hzl]]
   exact List.take_left
 ·have hold:(Builtin.firstCells i0.size n (.slice (some ⟨g,0,none⟩) n cap)).run Tryz.prog w.drew = .ok xs.toArray w.drew:=by
   rw[hz1]
   have:=run_firstCells_some (P:=Tryz.prog) w.drew 1 n ⟨g,0,none⟩ n cap xs (by rw[hxl];omega) (fun j u hu=>by
    have:=hown.cells (g:=g) rfl j u hu
    simpa using this)
   exact this
  have hr:=Lib.run_append_grow_zeros (P:=Tryz.prog) w 53 3 ty 5 i0 (.int .u8 0) .i64 .i64 Tryz.underlying53 Tryz.underlying3 hi hz0 (some ⟨g,0,none⟩) n cap xs hold k h0 (by omega) (by omega) (by omega) (by rw[hz2];omega) (growslice_fits (by omega) (by rw[hz2];omega))
  refine ⟨_,_,hr,⟨by rw[List.length_append,hxl,hzl];omega,Or.inr ⟨w.heap.size,_,_,rfl,hbase,heap_alloc_new w.drew _,grownCap_ge _ _ _ _,grownCap_le_maxLen _ _ _ _ (by unfold maxLen;omega),?_,?_⟩⟩,⟨rfl,rfl,rfl,by simp,fun j hj _=>by have:=heap_alloc_old w.drew (.cells (xs.toArray++Builtin.zeroCells (Value.int IntKind.u8 0).cells k++Builtin.zeroCells (Value.int IntKind.u8 0).cells (grownCap w (n+k) cap 5 - (n+k))) 5) (r:=j) hj;exact this⟩⟩
  ·have hc1:(Value.int IntKind.u8 0).cells.size=1:=rfl
   have:=grownCap_ge w (n+k) cap 5
   simp only[Array.size_append,List.size_toArray,size_zeroCells,hc1,hxl]
   omega
  ·simp only[Array.toList_append,zgh,List.append_assoc]
   rw[← List.append_assoc,show (n+k)*1=(xs++List.replicate k (Value.int .u8 0)).length by rw[List.length_append,hxl,hzl];omega]
   exact List.take_left
def mkB (g n z:Nat) (sl:List UInt8):List UInt8:=[1,67,83,84]++lbS g 8++lbS n 8++lbS z 4++sl++List.replicate 8 0
theorem zh0 (sm:List UInt8→List UInt8) (g n:Nat) (b:List UInt8):mkB g n b.length (sm b)=zbq sm g n b:=rfl
theorem zoa {g n z:Nat} {sl:List UInt8} (h:sl.length=32):(mkB g n z sl).length=64:=by simp[mkB,zaw,h]
theorem zje {P:Program} (t e:TypeId) (n:Nat) (ht:P.underlying t=some (.array n e)) (hz:∀ w,(Go.sizeOf e).run P w = .ok 1 w) (b o:Nat) (h3:0<n) (W:World) :
  (Instr.sliceAt t (.pointer (some ⟨b,o,none⟩)) none none none).run P W = .ok (.slice (some ⟨b,o,none⟩) n n) W:=by
 have ea:P.arrayLen t=n:=by simp[Program.arrayLen,ht]
 have ee:P.elem t=e:=by simp[Program.elem,ht]
 rw[run_sliceAt_array_all W t ⟨b,o,none⟩ (by rw[ea,ee];exact ht),ea,ee,hz]
 simp only[Result.andThen_ok,slicedAt,Nat.zero_mul,Nat.sub_zero]
 rw[if_neg (by omega),Addr.add_mid]
 rfl
theorem zjf {P:Program} {w w' : World} {ops:Array Oper} {rest:List Oper} {o:Oper} {a:Act} {Q:Exit→Act→World→Prop} (hg:o.guard=none) (s x:Operand) (t tn:TypeId) (ho:o.op = .call { callee := .builtin .append,args := #[s,x],argTypes := #[t,tn] })
  (vs vx v' : Value) (hs:a.eval s=vs) (hx:a.eval x=vx) (hr:∀ ty,(Builtin.append_ #[t,tn] ty #[vs,vx]).run P w = .ok v' w') (h:wpList P ops Q rest (a.put o.dst v') w'):wpList P ops Q (o::rest) a w :=
 wpList_plain hg fun K hK=>by
  unfold Oper.wp execOp
  simp only[ho,resolve,invoke,builtin,Sem.run_bind,Sem.run_pure,Result.andThen_ok,List.map_toArray,List.map_cons,List.map_nil,hs,hx,hr]
  exact hK _ _ h
theorem zhc (w:World) (n:Nat) (hn:n≤1000000):∃ W,(Instr.makeSlice 53 (.int .i64 (n:Int)) (.int .i64 (n:Int))).run Tryz.prog w = .ok (.slice (some ⟨w.heap.size,0,none⟩) n n) W∧Blk W w.heap.size 5 ((List.replicate n (0:UInt8)).map bv)∧w.grownBy W none∧W=w.alloc (.cells ((List.replicate n (0:UInt8)).map bv).toArray 5):=by
 obtain ⟨i0,hi,hz0,hz1,hz2⟩:=info_parts zb5
 have h:=run_make (P:=Tryz.prog) w 53 5 i0 (.int .u8 0) Tryz.underlying53 hi hz0 .i64 .i64 (n:Int) (n:Int) (by omega) (by omega) (by rw[hz2];omega) (by omega)
 have e:madeCells (Value.int IntKind.u8 0).cells ((n:Int).toNat*i0.size)=((List.replicate n (0:UInt8)).map bv).toArray:=by
  rw[hz1,Int.toNat_natCast,Nat.mul_one]
  have h1:(Value.int IntKind.u8 0).cells = #[.int .u8 0]:=rfl
  rw[h1]
  apply Array.ext
  ·simp[madeCells]
  ·intro i h2 h3
   simp[madeCells,bv,Nat.mod_one]
 rw[e,Int.toNat_natCast] at h
 exact ⟨_,h,Blk.new w 5 _,zaf (zac _ _) _,rfl⟩
theorem zl6 (a b c:Option Addr) (i j k l m n:Nat) (V:World):(Instr.buildSlice 126 3 #[(0,.slice a i j),(1,.slice b k l),(2,.slice c m n)]).run Tryz.prog V = .ok (.slice (some ⟨V.heap.size,0,none⟩) 3 3) (V.alloc (.cells #[.slice a i j,.slice b k l,.slice c m n] 53)):=by kernel_rfl
theorem zct {w:World} {base n:Nat} {t:TypeId} {v:Value} {xs:List Value} (h:w.ownsRow base t 1 v n xs) (hn:0<n):∃ g cap,v = .slice (some ⟨g,0,none⟩) n cap:=by
 rcases h.2 with ⟨_,h1⟩ | ⟨g,cap,cur,hv,_⟩
 ·omega
 ·exact ⟨g,cap,hv⟩
theorem zob {w:World} {b:Nat} {t:TypeId} {L:List Value} (h:Blk w b t L) (ho:∀ v∈L,v.oneCell'=true) (hm:L.length≤1000000):Cel w (some ⟨b,0,none⟩) L.length L :=
 ⟨⟨(fun e=>by cases e),Nat.le_refl _,by unfold maxLen;omega,(fun ad e=>by cases e;rfl),fun ad e i hi=>by
   cases e
   have:=zan h
   intro j v hv
   have hj:j=0:=by
    cases j with
    | zero=>rfl
    | succ j=>simp[cl1] at hv
   subst hj
   simp only[cl1,List.getElem?_cons_zero,Option.some.injEq] at hv
   subst hv
   have h2:=this i L[i] (by rw[List.getElem?_eq_getElem hi])
   simpa using h2⟩,ho⟩
set_option maxRecDepth 100000 in
set_option maxHeartbeats 4000000 in
theorem zl7 (w:World) (g n z:Nat) (sl:List UInt8) (h32:sl.length=32) :
  Calls Tryz.prog 93 #[.agg (mkC g n z sl).toArray] w fun e w'=>∃ v,e = .returned v∧w'.ownsRow w.heap.size 5 1 v 256 ((za8 (mkB g n z sl)).map bv)∧w.grownBy w' none:=by
 obtain ⟨M,hM⟩:∃ M,M=mkC g n z sl:=⟨_,rfl⟩
 rw[← hM]
 obtain ⟨W1,hW1,hB1,g1⟩:=zah w 104 M
 have hB1':=hB1
 rw[hM] at hB1'
 have c0:W1.cell? ⟨w.heap.size,0,none⟩=some (.int .u64 (g:Int)):=by rw[hB1'.cell 0];rfl
 have c1:W1.cell? ⟨w.heap.size,1,none⟩=some (.int .u64 (n:Int)):=by rw[hB1'.cell 1];rfl
 have c2:W1.cell? ⟨w.heap.size,2,none⟩=some (.int .u64 (z:Int)):=by rw[hB1'.cell 2];rfl
 have hsr:W1.rangeAt w.heap.size 3 (sl.map bv):=by
  have h:Blk W1 w.heap.size 104 ([.int .u64 (g:Int),.int .u64 (n:Int),.int .u64 (z:Int)]++(sl.map bv++[])):=by rw[List.append_nil];exact hB1'
  have:=h.range
  exact this
 have s1:W1.heap.size=w.heap.size+1:=by rw[hW1,World.size_alloc]
 obtain ⟨W2,hW2⟩:∃ W,W=W1.alloc (.cells #[.int .u8 1,.int .u8 67,.int .u8 83,.int .u8 84] 5 (4,5)):=⟨_,rfl⟩
 have g2:W1.grownBy W2 none:=by rw[hW2];exact zaf (zac _ _) _
 have hcv:(convert 53 53 (.slice (some ⟨W1.heap.size,0,none⟩) 4 4)).run Tryz.prog (W1.alloc (.cells #[.int .u8 1,.int .u8 67,.int .u8 83,.int .u8 84] 5)) = .ok (.slice (some ⟨W1.heap.size,0,none⟩) 4 4) W2:=by
  rw[hW2];exact Lib.run_convert_bytes_const (P:=Tryz.prog) W1 53 5 #[.int .u8 1,.int .u8 67,.int .u8 83,.int .u8 84] 4 4 Tryz.underlying53 Tryz.underlying5
 have hb2:Bts W2 (some ⟨W1.heap.size,0,none⟩) 4 [1,67,83,84]:=by
  refine ⟨(fun e=>by cases e),(by decide),by unfold maxLen;decide,(fun ad e _=>by cases e;rfl),fun ad e i hi => ?_⟩
  cases e
  rw[hW2,Nat.zero_add,World.cell?_alloc_mark]
  have hi4:i<4:=hi
  rcases (show i=0∨i=1∨i=2∨i=3 by omega) with rfl | rfl | rfl | rfl <;> rfl
 have C0:=g2.cell c0 (by simp)
 have C1:=hide (g2.cell c1 (by simp))
 have C2:=hide (g2.cell c2 (by simp))
 have HSR:=hide (zak hsr g2 (by simp))
 have HW1:=hide hW1
 have HG2:=hide (tn g1 g2)
 have cp:=zhv W2 (some ⟨W1.heap.size,0,none⟩) 4 [1,67,83,84] g 8 hb2 (by simp)
 rw[show nb 8=8 from by decide] at cp
 obtain ⟨Q1,hQ1⟩:∃ Q,Q=[1,67,83,84]++lb g 8:=⟨_,rfl⟩
 rw[← hQ1] at cp
 have l1:Q1.length=12:=by rw[hQ1];simp[zb6]
 rw[l1,show ([1,67,83,84]:List UInt8).length=4 from rfl] at cp
 obtain ⟨HM,HS1,HL1,HQ1,H32⟩:=zh5 hM s1 l1 hQ1 h32
 clear l1 hQ1 hW1 hB1 hB1' g1 hW2 g2 s1 hb2 c0 c1 c2 hsr hM h32
 go_enter Tryz.func93,Tryz.ntmps93
 go_wp2_with (first
  | (rw[← uh HW1])
  | (go_at_call 78;fail))
 refine cp.mono ?_
 rintro e w3 ⟨v3,rfl,ho3,g3⟩
 obtain ⟨-,a3,k3,rfl,hb3,-⟩:=zc1 (l:=Q1) ho3
 have cp2:=zhv w3 a3 k3 Q1 n 8 hb3 (by rw[uh HL1];decide)
 obtain ⟨Q2,hQ2⟩:∃ Q,Q=Q1++lb n 8:=⟨_,rfl⟩
 have l2:Q2.length=20:=by rw[hQ2];simp[zb6,uh HL1]
 rw[show nb 8=8 from by decide,← hQ2,uh HL1,l2] at cp2
 have G3:=tn (uh HG2) g3
 have d1:=g3.cell (uh C1) (by simp)
 have D2:=hide (g3.cell (uh C2) (by simp))
 obtain ⟨HL2,HQ2⟩:=zh2 l2 hQ2
 have DSR:=hide (zak (uh HSR) g3 (by simp))
 clear cp ho3 hb3 g3 C0 l2 hQ2
 go_wp2_with (go_at_call 78;fail)
 refine cp2.mono ?_
 rintro e w4 ⟨v4,rfl,ho4,g4⟩
 obtain ⟨-,a4,k4,rfl,hb4,-⟩:=zc1 (l:=Q2) ho4
 have cp3:=zhv w4 a4 k4 Q2 z 4 hb4 (by rw[uh HL2];decide)
 obtain ⟨Q3,hQ3⟩:∃ Q,Q=Q2++lb z 4:=⟨_,rfl⟩
 have l3:Q3.length=24:=by rw[hQ3];simp[zb6,uh HL2]
 rw[show nb 4=4 from by decide,← hQ3,uh HL2,l3] at cp3
 have G4:=tn G3 g4
 have e2:=g4.cell (uh D2) (by simp)
 have ESR:=hide (zak (uh DSR) g4 (by simp))
 obtain ⟨HL3,HQ3⟩:=zh2 l3 hQ3
 clear cp2 ho4 hb4 g4 G3 d1 l3 hQ3
 go_wp2_with (go_at_call 78;fail)
 refine cp3.mono ?_
 rintro e w5 ⟨v5,rfl,ho5,g5⟩
 have HG5:=hide (tn G4 g5)
 have h32:=uh H32
 have hbs:Bts w5 (some ⟨w.heap.size,3,none⟩) 32 sl:=by
  have:=zcn (zak (uh ESR) g5 (by simp)) (by rw[h32];unfold maxLen;omega)
  rwa [h32] at this
 have HBS:=hide hbs
 have ho5' : w5.ownsRow w.heap.size 5 1 v5 24 (Q3.map bv):=zd1 ho5 G4.size
 have HO5:=hide ho5'
 have hsl:=fun W=>zje (P:=Tryz.prog) 102 5 32 Tryz.underlying102 (fun w=>by kernel_rfl) w.heap.size 3 (by decide) W
 clear cp3 ho5 ho5' g5 G4 e2 hbs h32
 go_upto_region 6 with (refine zbh rfl _ _ rfl w.heap.size _ _ _ rfl (uh HO5) _ _ sl (uh HBS) 32 (uh H32).symm rfl (by omega) (uh HG5).size ?_;intro v6 w6 ho6 g6;have HG6:=hide (zed (uh HG5) (uh HO5) g6);have HO6:=hide ho6;clear ho6 g6)
 have ho6:=uh HO6
 obtain ⟨b6,k6,rfl⟩:=zct ho6 (by decide)
 have hz6:=fun ty=>zjd w6 w.heap.size b6 56 k6 (Q3.map bv++sl.map bv) 8 (by decide) ho6 (by decide) (uh HG6).size ty
 obtain ⟨v7,w7,hr7,ho7,g7⟩:=hz6 0
 have hr7' : ∀ ty,(Builtin.append_ #[53,3] ty #[.slice (some ⟨b6,0,none⟩) 56 k6,.int .i64 8]).run Tryz.prog w6 = .ok v7 w7:=fun ty=>hr7
 have HG7:=hide (zed (uh HG6) ho6 (show w6.grownBy w7 (Value.ownBlock (.slice (some ⟨b6,0,none⟩) 56 k6)) from g7))
 obtain ⟨MB,hMB⟩:∃ B,B=mkB g n z sl:=⟨_,rfl⟩
 have hml:MB.length=64:=by rw[hMB];exact zoa (uh H32)
 have eM:Q3.map bv++sl.map bv++List.replicate 8 (Value.int .u8 0)=MB.map bv:=by
  rw[hMB,uh HQ3,uh HQ2,uh HQ1]
  simp only[mkB,List.map_append,List.append_assoc]
  rfl
 rw[eM] at ho7
 have ho7b:w7.ownsRow w.heap.size 5 1 v7 64 (MB.map bv):=ho7
 obtain ⟨b7,k7,hv7⟩:=zct ho7b (by decide)
 subst hv7
 obtain ⟨w8,hmk8,hB8,g8,hw8⟩:=zhc w7 128 (by decide)
 have hl64:(MB.map bv).length=64:=by rw[List.length_map];exact hml
 obtain ⟨ao7,c7,hv7,hc7,hn7⟩:=Cel.own (by rw[hl64];exact ho7b) (zch MB)
 injection hv7 with e1 e2 e3
 rw[← e1,← e3] at hc7
 have hcz:Cel w8 (some ⟨w7.heap.size,0,none⟩) 128 ((List.replicate 128 (0:UInt8)).map bv):=by
  have:=zob hB8 (zch _) (by simp)
  simpa using this
 obtain ⟨w9,hw9,hB9,g9⟩:=zah w8 53 [.slice (some ⟨b7,0,none⟩) 64 k7,.slice (some ⟨w7.heap.size,0,none⟩) 128 128,.slice (some ⟨b7,0,none⟩) 64 k7]
 have hP9:Cel w9 (some ⟨w8.heap.size,0,none⟩) 3 [.slice (some ⟨b7,0,none⟩) 64 k7,.slice (some ⟨w7.heap.size,0,none⟩) 128 128,.slice (some ⟨b7,0,none⟩) 64 k7]:=zob hB9 (fun u hu=>by simp only[List.mem_cons,List.not_mem_nil,or_false] at hu;rcases hu with rfl | rfl | rfl <;> rfl) (by simp)
 have hc9:=(hc7.kept g8).kept g9
 have hQ9:Prts w9 [.slice (some ⟨b7,0,none⟩) 64 k7,.slice (some ⟨w7.heap.size,0,none⟩) 128 128,.slice (some ⟨b7,0,none⟩) 64 k7] [MB.map bv,(List.replicate 128 (0:UInt8)).map bv,MB.map bv]:=by
  have p1:=Prts.snoc (Prts.nil (w:=w9)) hc9
  have p2:=Prts.snoc p1 (hcz.kept g9)
  have p3:=Prts.snoc p2 hc9
  rw[hl64] at p3
  simpa using p3
 have hfl:[MB.map bv,(List.replicate 128 (0:UInt8)).map bv,MB.map bv].flatten=(za8 MB).map bv:=by
  unfold za8
  simp only[List.flatten_cons,List.flatten_nil,List.append_nil,List.map_append,List.append_assoc]
 have hfl2:((za8 MB).map bv).length=256:=by rw[List.length_map];exact zec hml
 have cc:=zj0 w9 (some ⟨w8.heap.size,0,none⟩) 3 _ _ hP9 hQ9 (by rw[hfl,hfl2];decide) (by simp)
 rw[hfl,hfl2] at cc
 have cc2:Calls Tryz.prog 110 #[.slice (some ⟨w8.heap.size,0,none⟩) 3 3] w9 fun e w'=>∃ v,e = .returned v∧w'.ownsRow w9.heap.size 5 1 v 256 ((za8 MB).map bv)∧w9.grownBy w' none:=cc
 have hbs3:=zl6 (some ⟨b7,0,none⟩) (some ⟨w7.heap.size,0,none⟩) (some ⟨b7,0,none⟩) 64 k7 128 128 64 k7 w8
 have HW9:=hide (show w9=w8.alloc (.cells #[.slice (some ⟨b7,0,none⟩) 64 k7,.slice (some ⟨w7.heap.size,0,none⟩) 128 128,.slice (some ⟨b7,0,none⟩) 64 k7] 53) from hw9)
 have hmk8' : (Instr.makeSlice 53 (.int .i64 128) (.int .i64 128)).run Tryz.prog w7 = .ok (.slice (some ⟨w7.heap.size,0,none⟩) 128 128) w8:=hmk8
 have HR7:=hide hr7'
 have HMB:=hide hMB
 have HG9:=hide (tn (uh HG7) (tn g8 g9))
 clear hz6 hr7 hr7' ho7 g7 ho6 eM hMB hml HO6 HG6 HBS HO5 HG5 HL3 HQ3 HQ2 HQ1 HL1 HL2 ho7b hmk8 hB8 g8 hw8 hl64 hc7 hn7 hcz hw9 hB9 g9 hP9 hc9 hQ9 hfl hfl2 cc hbs3 e1 e2 e3 HG7
 go_wp2_with (first
  | (refine zjf rfl _ _ _ _ rfl _ _ _ rfl rfl (uh HR7) ?_)
  | (go_at_call 110;rw[← uh HW9];refine cc2.mono ?_;rintro e w10 ⟨v10,rfl,ho10,g10⟩;have HO10:=hide ho10;have HG10:=hide (tn (uh HG9) g10);have HS10:=hide (uh HG9).size;clear cc2 ho10 g10))
 go_ret
 exact ⟨v10,rfl,by rw[← uh HMB];exact zd1 (uh HO10) (uh HS10),uh HG10⟩
end Go.Proofs.YtoilcpdhhlcidaaGreatDoor
