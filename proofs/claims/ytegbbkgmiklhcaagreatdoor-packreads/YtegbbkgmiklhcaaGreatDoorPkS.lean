/- Lemmas. -/
import Derived.Test.YtegbbkgmiklhcaaGreatDoorRGSetM
import Derived.Test.YtegbbkgmiklhcaaGreatDoorSoSl
namespace Go.Proofs.YtegbbkgmiklhcaaGreatDoor
open Go.RowKit
set_option maxRecDepth 100000
theorem zcb (o:Ob):(obId o).length=32:=zb2 _
structure KIx (l:List Ob) (i:Nat) (K:List (List UInt8 × Value)):Prop where
 keys:∀ x,x∈K.map (·.1)↔x∈(l.take i).map obId
 val:∀ p∈K,∃ j,j<i∧p.2 = .int .i64 (j:Int)∧∃ h:j<l.length,obId l[j]=p.1
theorem KIx.nil (l:List Ob):KIx l 0 []:=⟨by simp,by simp⟩
theorem KIx.put {l:List Ob} {i:Nat} {K:List (List UInt8 × Value)} (h:KIx l i K) (hi:i<l.length):KIx l (i+1) (putK K (obId l[i]) (.int .i64 (i:Int))):=by
 refine ⟨fun x => ?_,fun p hp => ?_⟩
 ·rw[List.take_succ_eq_append_getElem hi,List.map_append,List.mem_append]
  constructor
  ·intro hx
   obtain ⟨p,hp,rfl⟩:=List.mem_map.1 hx
   rcases (zgo _ _ _).1 hp with rfl | ⟨hp,_⟩
   ·exact Or.inr (by simp)
   ·exact Or.inl ((h.keys _).1 (List.mem_map.2 ⟨p,hp,rfl⟩))
  ·intro hx
   by_cases e:x=obId l[i]
   ·subst e
    exact List.mem_map.2 ⟨_,(zgo _ _ _).2 (Or.inl rfl),rfl⟩
   ·rcases hx with hx | hx
    ·obtain ⟨p,hp,rfl⟩:=List.mem_map.1 ((h.keys _).2 hx)
     exact List.mem_map.2 ⟨p,(zgo _ _ _).2 (Or.inr ⟨hp,e⟩),rfl⟩
    ·exact absurd (by simpa using hx) e
 ·rcases (zgo _ _ _).1 hp with rfl | ⟨hp,_⟩
  ·exact ⟨i,by omega,rfl,hi,rfl⟩
  ·obtain ⟨j,h1,h2,h3⟩:=h.val p hp
   exact ⟨j,by omega,h2,h3⟩
set_option maxHeartbeats 4000000 in
theorem zp7 (w:World) (ao:Option Addr) (c:Nat) (L:List ObP) (hO:Obsl w ao c L) (hm:L.length≤300) (hd:∀ r∈L,r.d.length≤16384) (hT:Tabs w) :
  Calls Tryz.prog 22 #[.slice ao L.length c] w fun e w'=>∃ v m M K,e = .returned (.tuple #[v,.map (some m)])∧M.Perm ((L.map (·.o)).map obId)∧zmh M∧w'.ownsRow w.heap.size 47 32 v L.length (M.flatMap (·.map bv))∧MapAt w' m K∧KIx (L.map (·.o)) L.length K∧w.grownBy w' none:=by
 obtain ⟨n,hn⟩:∃ n,n=L.length:=⟨_,rfl⟩
 rw[← hn] at hm ⊢
 obtain ⟨W1,hW1,hB1,g1⟩:∃ W1,W1=w.alloc (.cells #[.slice none 0 0] 59)∧Blk W1 w.heap.size 59 [.slice none 0 0]∧w.grownBy W1 none:=zag w _ _
 obtain ⟨W2,hW2⟩:∃ W2,W2=W1.alloc (.map #[] 0):=⟨_,rfl⟩
 have g2:W1.grownBy W2 none:=by rw[hW2];exact zad (zaa _ _) _
 have hs1:W1.heap.size=w.heap.size+1:=by rw[hW1];simp
 have hM2:MapAt W2 (w.heap.size+1) []:=by rw[hW2,← hs1];exact MapAt.new W1
 have hmk:∀ W:World,(Instr.makeMap 60 none).run Tryz.prog W = .ok (.map (some W.heap.size)) (W.alloc (.map #[] 0)):=fun W=>run_makeMap _ W
 obtain ⟨xb,hxb⟩:∃ x,x=w.heap.size:=⟨_,rfl⟩
 obtain ⟨m,hmm⟩:∃ x,x=w.heap.size+1:=⟨_,rfl⟩
 rw[← hxb] at hB1
 rw[← hmm] at hM2
 have HW:=hide (show W2=(w.alloc (.cells #[.slice none 0 0] 59)).alloc (.map #[] 0) by rw[hW2,hW1])
 obtain ⟨HXB,HMM,HN,HO,HD,HT⟩:=zh6 hxb hmm hn hO hd hT
 have HST:=hide (And.intro (hB1.kept g2 (by simp)) (And.intro hM2 (tn g1 g2)))
 clear hxb hmm hn hO hd hT hB1 hM2 g1 g2 hW1 hW2 hs1
 go_enter Tryz.func22,Tryz.ntmps22
 go_wp2_with (rw[← uh HW,← uh HMM,← uh HXB])
 go_loopw [12] (fun vi wr=>∃ (i:Nat) (v:Value) (K:List (List UInt8 × Value)),vi = .int .i64 i∧i≤n∧Hid (Blk wr xb 59 [v]∧wr.ownsRow w.heap.size 47 32 v i ((((L.map (·.o)).take i).map obId).flatMap (·.map bv))∧MapAt wr m K∧KIx (L.map (·.o)) i K∧w.grownBy wr none)) (fun vi _=>n - (intOf vi).toNat)
 case atStart=>exact ⟨0,.slice none 0 0,[],rfl,Nat.zero_le _,⟨(uh HST).1,World.ownsRow_nil _ _ _ _,(uh HST).2.1,KIx.nil _,(uh HST).2.2⟩⟩
 case round =>
  clear HST
  obtain ⟨i,v,K,rfl,hin,HR⟩:=hrel
  by_cases hi:i<n
  ·have hiz:(i:Int)<(n:Int):=by omega
   have hiL:i<L.length:=by rw[← uh HN];exact hi
   obtain ⟨b,o,rfl,hr0,hb0⟩:=(uh HO).at i hiL
   obtain ⟨hB,ho,hM,hK,hg⟩:=uh HR
   have hr:=zah hr0 hg (by simp)
   have hbt:=hb0.kept hg (fun _ e=>by cases e)
   obtain ⟨r,hre⟩:∃ r,r=L[i]:=⟨_,rfl⟩
   have hdr:r.d.length≤16384:=by rw[hre];exact uh HD _ (List.getElem_mem hiL)
   rw[← hre] at hr hbt
   obtain ⟨OC,hOC⟩:∃ C,C=obP r:=⟨_,rfl⟩
   rw[← hOC] at hr
   obtain ⟨W3,hW3,hBZ,hB3,g3⟩:=zjt wr OC
   have hr3:=zas hB3
   have hiO:(Tryz.prog.info? 42).map (·.size)=some OC.length:=by rw[hOC];exact zc0
   have hiO2:(Tryz.prog.info? 42).map (·.size)=some OC.toArray.size:=by rw[hOC];exact zc0
   have hoo:OC.toArray.all (·.oneCell')=true:=by rw[hOC];exact zk4 r
   have hzs:([Value.int .i64 0,.slice none 0 0]:List Value).toArray.size=OC.toArray.size:=by rw[hOC];rfl
   have G3:=tn hg g3
   have cp:=zlc W3 r.k r.ao r.c r.d (hbt.kept g3 (fun _ e=>by cases e)) (by omega) ((uh HT).kept0 G3)
   rw[show Value.agg #[.int .i64 r.k,.slice r.ao r.d.length r.c] = .agg OC.toArray by rw[hOC];rfl] at cp
   have hget:(L.map (·.o))[i]'(by simpa using hiL)=r.o:=by simp[hre]
   obtain ⟨I,hI⟩:∃ I,I=obId r.o:=⟨_,rfl⟩
   have hI2:shaL (putL r.k r.d)=I:=by rw[hI];rfl
   have hIl:I.length=32:=by rw[hI];exact zcb _
   rw[hI2] at cp
   obtain ⟨KB,hKB⟩:∃ k,k=I.map bv:=⟨_,rfl⟩
   rw[← hKB] at cp
   have hKl:KB.length=32:=by rw[hKB,List.length_map,hIl]
   have hK1:∀ u∈KB,u.oneCell'=true:=by rw[hKB];exact za6 _
   have hKo:KB.toArray.all (·.oneCell')=true:=all_oneCell_toArray hK1
   have hiK:(Tryz.prog.info? 47).map (·.size)=some KB.length:=by rw[hKl];exact zba
   have hiK2:(Tryz.prog.info? 47).map (·.size)=some KB.toArray.size:=by simpa using hiK
   obtain ⟨Z,hZ,hzv⟩:=zd9
   have hZK:Z.toList.toArray.size=KB.toArray.size:=by simp[hZ,hKl]
   have hZl:Z.toList.toArray=Z:=by simp
   have hstep:((L.map (·.o)).take (i+1)).map obId=((L.map (·.o)).take i).map obId++[I]:=by
    rw[List.take_succ_eq_append_getElem (by simpa using hiL),hget,List.map_append,hI];rfl
   have hKn:KIx (L.map (·.o)) (i+1) (putK K I (.int .i64 (i:Int))):=by
    have:=hK.put (by simpa using hiL)
    rw[hget,← hI] at this
    exact this
   obtain ⟨HGT,HKN,HKB,HIL,HKL,HK1⟩:=zh6 hstep hKn hKB hIl hKl hK1
   obtain ⟨HKO,HIK,HIK2,HZK,HIO,HIO2⟩:=zh6 hKo hiK hiK2 hZK hiO hiO2
   obtain ⟨HOO,HZS,HW3,HBZ,HR3,HG3⟩:=zh6 hoo hzs hW3 hBZ hr3 g3
   have HH:=hide hr
   have hwi:IntKind.i64.wrap ((i:Int)+1)=(i:Int)+1:=by rw[IntKind.wrap_i64];omega
   have c0:=hB.cell 0
   simp only[List.getElem?_cons_zero] at c0
   clear hr hstep hKn hget hre hOC hI hI2 hKB hIl hKl hK1 hKo hiK hiK2 hZK hZ hZl hB3 hBZ hW3 hr3 hiO hiO2 hoo hzs g3 G3 hr0 hb0 hbt hB ho hM hK hg hdr
   go_upto_region 7 with (first
    | (refine wpList_load_mid rfl 42 _ rfl b (o+i*2) rfl OC _ (uh HH) Tryz.underlying42 rfl (uh HIO) ?_;clear HH)
    | (refine wpList_store_row rfl 42 _ _ rfl wr.heap.size OC.toArray rfl rfl _ _ (uh HBZ) (uh HIO2) (uh HZS) (uh HOO) ?_;rw[← uh HW3])
    | (refine wpList_load_mid rfl 42 _ rfl wr.heap.size 0 rfl OC _ (uh HR3) Tryz.underlying42 rfl (uh HIO) ?_;clear HR3)
    | (go_at_call 17;refine cp.mono ?_;rintro e w4 ⟨rfl,g4⟩;clear cp;have G4:=hide (tn (uh HG3) g4);clear g4;obtain ⟨W5,hW5,hB5,g5⟩:=zb6 w4 47 Z KB;have HW5:=hide hW5;have HBN:=hide (show Blk (w4.alloc (.cells Z 47)) w4.heap.size 47 Z.toList by simpa using Blk.new w4 47 Z.toList);have G5:=hide (tn (uh G4) g5);have HB5:=hide hB5;clear hW5 hB5 g5)
    | (refine wpList_store_row rfl 47 _ _ rfl w4.heap.size KB.toArray rfl rfl _ _ (uh HBN) (uh HIK2) (uh HZK) (uh HKO) ?_;rw[← uh HW5]))
   obtain ⟨hB,ho,hM,hK,hg⟩:=uh HR
   have h5:=hide (zas (uh HB5))
   have c0:=(hB.kept (uh G5) (by simp)).cell 0
   simp only[List.getElem?_cons_zero] at c0
   obtain ⟨W6,hW6,hB6,g6⟩:=zag W5 47 KB
   have hbs:(Instr.buildSlice 59 1 #[(0,.agg KB.toArray)]).run Tryz.prog W5 = .ok (.slice (some ⟨W5.heap.size,0,none⟩) 1 1) W6:=by rw[hW6,uh HKB];exact zkn _ (uh HIL) W5
   have G6:=tn (uh G5) g6
   have ho6:=zbw ho G6 (fun _ e=>by cases e)
   have hbase:w.heap.size≤W6.heap.size:=(tn hg G6).size
   have hn9:i≤100000:=by omega
   obtain ⟨HBS,HO6,HB6,HG6,HG56⟩:=zh5 hbs ho6 hB6 G6 g6
   clear hbs ho6 hB6 g6 hW6 hB ho hM hK hg G6
   go_upto_region 8 with (first
    | (refine wpList_load_mid rfl 47 _ rfl w4.heap.size 0 rfl KB _ (uh h5) Tryz.underlying47 rfl (uh HIK) ?_;(try simp only[pq]))
    | (refine zaw rfl 59 _ rfl (.agg KB.toArray) _ rfl (uh HBS) ?_;(try simp only[pq]))
    | (refine zcz rfl _ _ rfl w.heap.size v i _ rfl (uh HO6) _ KB (uh HB6) (uh HKL) (uh HK1) rfl hn9 hbase ?_;intro v7 w7 ho7 g7;obtain ⟨a7,x7,rfl⟩:=zcw ho7;have HO7:=hide ho7;have HG7:=hide g7;have hB7:=((uh HR).1.kept (uh HG6) (by simp)).kept g7 (zao (uh HO6) ((uh HR).1.kept (uh HG6) (by simp)) (by decide));have c7:=hB7.cell 0;have f7:=hB7.fz 0;simp only[List.getElem?_cons_zero] at c7;have HB7:=hide hB7;clear ho7 g7 hB7;(try simp only[pq])))
   obtain ⟨hB,ho,hM,hK,hg⟩:=uh HR
   obtain ⟨W8,hW8⟩:∃ W8,W8=w7.setCell ⟨xb,0,none⟩ (.slice a7 (i+1) x7):=⟨_,rfl⟩
   have hB8:Blk W8 xb 59 [.slice a7 (i+1) x7]:=by rw[hW8];exact (uh HB7).set 0 _
   have hM6:=hM.none (uh HG6)
   have hM7:=hM6.kept (uh HG7) (hM6.own (uh HO6))
   have g78:w7.grownBy W8 (some xb):=by rw[hW8];exact zd4 w7 xb 0 _
   have hM8:MapAt W8 m K:=hM7.kept g78 (fun e=>by injection e with e;exact hM7.blk (uh HB7) e)
   have ho8:W8.ownsRow w.heap.size 47 32 (.slice a7 (i+1) x7) (i+1) ((((L.map (·.o)).take (i+1)).map obId).flatMap (·.map bv)):=by
    have h7:=uh HO7
    rw[uh HGT,List.flatMap_append]
    simp only[List.flatMap_cons,List.flatMap_nil,List.append_nil]
    rw[← uh HKB]
    exact h7.kept g78 (Or.inr fun e=>zao h7 (uh HB7) (by decide) e.symm)
   have hG8:w.grownBy W8 none:=by
    have h6:=tn hg (uh HG6)
    have h7:w.grownBy w7 none:=zae h6 (uh HG7) (fun y e=>Or.inl ((uh HO6).lt y e).1)
    exact zae h7 g78 (fun y e=>Or.inl (by injection e with e;have:=uh HXB;omega))
   have hB7i:Blk W8 w4.heap.size 47 KB:=by
    have h6:Blk W6 w4.heap.size 47 KB:=(uh HB5).kept (uh HG56) (by simp)
    have h7:Blk w7 w4.heap.size 47 KB:=h6.kept (uh HG7) (fun e=>by
     have h1:=(ho.lt _ e.symm).2
     have h2:=(uh G4).size
     omega)
    exact h7.kept g78 (fun e=>by injection e with e;have h1:=(uh HB7);unfold Blk at h1 h7;rw[e,h1] at h7;injection h7 with h7;injection h7 with _ h7;cases h7)
   have h8:=hide (zas hB7i)
   obtain ⟨W9,hmu,hM9,g9,_⟩:=hM8.store 60 3 Tryz.underlying60 _ (uh HIL) (.int .i64 (i:Int))
   have hmu2:(Instr.mapUpdate 60 (.map (some m)) (.agg KB.toArray) (.int .i64 (i:Int))).run Tryz.prog W8 = .ok () W9:=by rw[uh HKB];exact hmu
   have hB9:Blk W9 xb 59 [.slice a7 (i+1) x7]:=hB8.kept g9 (fun e=>by injection e with e;exact hM8.blk hB8 e.symm)
   have ho9:=zpy ho8 hM8 g9
   have hG9:w.grownBy W9 none:=zae hG8 g9 (fun y e=>Or.inl (by injection e with e;have:=uh HMM;omega))
   have HFIN:=hide (And.intro hB9 (And.intro ho9 (And.intro hM9 (And.intro (uh HKN) hG9))))
   obtain ⟨HMU,HW8⟩:=zh2 hmu2 hW8
   clear hB9 ho9 hM9 hG9 hmu hmu2 g9 hB7i hG8 ho8 hM8 g78 hM7 hM6 hB8 hW8 hB ho hM hK hg
   go_wp2_with (first
    | (rw[← uh HW8])
    | (refine wpList_load_mid rfl 47 _ rfl w4.heap.size 0 rfl KB _ (uh h8) Tryz.underlying47 rfl (uh HIK) ?_)
    | (rw[uh HMU]))
   go_roundw
   case rel=>exact ⟨i+1,.slice a7 (i+1) x7,_,by go_num,by omega,uh HFIN⟩
   case measure=>simp[intOf];omega
  ·have hiz:¬ (i:Int)<(n:Int):=by omega
   obtain ⟨hB,ho,hM,hK,hg⟩:=uh HR
   have hiL:i=L.length:=by have:=uh HN;omega
   have hall:(L.map (·.o)).take i=L.map (·.o):=List.take_of_length_le (by simp;omega)
   rw[hall] at ho
   have hlen:((L.map (·.o)).map obId).length=i:=by simp[hiL]
   have ho2:wr.ownsRow w.heap.size 47 32 v ((L.map (·.o)).map obId).length (((L.map (·.o)).map obId).flatMap (·.map bv)):=by rw[hlen];exact ho
   have cs:=zlb wr w.heap.size xb v _ ho2 (fun x hx=>by obtain ⟨q,_,rfl⟩:=List.mem_map.1 hx;exact zcb q) hB (by rw[hlen];omega)
   rw[hlen] at cs
   have c0:=hB.cell 0
   simp only[List.getElem?_cons_zero] at c0
   have hKn:KIx (L.map (·.o)) n K:=by
    have e:i=n:=by omega
    rw[← e]
    exact hK
   have hin2:i=n:=by omega
   obtain ⟨HIN,HKN⟩:=zh2 hin2 hKn
   clear hB ho hM hK hg hiL hall hlen ho2 hKn hin2
   go_wp2_with (go_at_call 41;refine cs.mono ?_;rintro e w4 ⟨rfl,M,q1,q2,q3,q4⟩;clear cs;have c4:=((uh HR).1.kept q4 (zao (uh HR).2.1 (uh HR).1 (by decide))).cell 0;simp only[List.getElem?_cons_zero] at c4;have HQ:=hide (And.intro q1 (And.intro q2 (And.intro q3 q4)));clear q1 q2 q3 q4)
   go_ret2
   obtain ⟨q1,q2,q3,q4⟩:=uh HQ
   obtain ⟨hB,ho,hM,hK,hg⟩:=uh HR
   refine ⟨v,m,M,K,rfl,q1,q2,by rw[← uh HIN];exact q3,hM.kept q4 (hM.own ho),uh HKN,zae hg q4 (fun x e=>Or.inl (ho.lt x e).1)⟩
theorem zep {α:Type} [DecidableEq α]:∀ {B:List α},¬ B.Nodup→∃ B' : List α,B'.length<B.length∧∀ x∈B,x∈B'
 | [],h=>absurd List.nodup_nil h
 | x::t,h=>by
  by_cases hx:x∈t
  ·exact ⟨t,by simp,fun y hy=>(List.mem_cons.1 hy).elim (fun e=>e ▸ hx) id⟩
  ·obtain ⟨t',h1,h2⟩:=zep (fun ht=>h (List.nodup_cons.2 ⟨hx,ht⟩))
   exact ⟨x::t',by simp;omega,fun y hy=>by
    rcases List.mem_cons.1 hy with e | hy
    ·rw[e];simp
    ·exact List.mem_cons_of_mem _ (h2 y hy)⟩
theorem zge {α β:Type} {f:α→β} {l:List α} (h:(l.map f).Nodup):l.Nodup:=(List.pairwise_map.1 h).imp fun hab e=>hab (congrArg f e)
theorem KIx.len {l:List Ob} {K:List (List UInt8 × Value)} (h:KIx l l.length K) (hn:(K.map (·.1)).Nodup):K.length≤l.length∧(K.length<l.length↔¬ (l.map obId).Nodup):=by
 have hk:∀ x,x∈K.map (·.1)↔x∈l.map obId:=fun x=>by have:=h.keys x;rwa [List.take_length] at this
 have h1:K.length≤l.length:=by
  have:=zel hn fun x hx=>(hk x).1 hx
  simpa using this
 refine ⟨h1,fun hl hd => ?_,fun hd => ?_⟩
 ·have:=zel hd fun x hx=>(hk x).2 hx
  simp only[List.length_map] at this
  omega
 ·obtain ⟨B',b1,b2⟩:=zep hd
  have:=zel hn fun x hx=>b2 x ((hk x).1 hx)
  simp only[List.length_map] at this b1
  omega
theorem KIx.get {l:List Ob} {K:List (List UInt8 × Value)} (h:KIx l l.length K) {x:List UInt8} (hx:x∈l.map obId):∃ j:Nat,getK K x=some (.int .i64 (j:Int))∧∃ hj:j<l.length,obId l[j]=x:=by
 have hk:x∈K.map (·.1):=(h.keys x).2 (by rw[List.take_length];exact hx)
 obtain ⟨v,hv⟩:=Option.isSome_iff_exists.1 ((zhe K x).2 hk)
 obtain ⟨j,_,h2,h3,h4⟩:=h.val _ (zr8 hv)
 exact ⟨j,by rw[hv];exact congrArg some h2,h3,h4⟩
theorem zev (l:List Ob):errP l=if 256<l.length then 3 else if errC l≠0 then errC l else if (l.map obId).Nodup then 0 else 14:=by
 unfold errP errC
 by_cases h1:256<l.length
 ·rw[if_pos h1,if_pos h1]
 ·rw[if_neg h1,if_neg h1]
  cases h2:l.find? (fun o=>zap o.1 o.2 != 0) with
  | none=>simp
  | some o =>
   have:=List.find?_some h2
   simp only[bne_iff_ne,ne_eq] at this
   simp[this]
theorem zsb {l s:List Ob} {M:List (List UInt8)} (hc:l.length≤256) (hok:∀ o∈l,OkO o) (hnd:(l.map obId).Nodup) (hM:M.Perm (l.map obId)) (hf:zmh M) (h1:s.map obId=M) (h2:∀ o∈s,o∈l):s.Perm l∧PackOf (zd0 s) s:=by
 have hMn:M.Nodup:=hM.nodup_iff.2 hnd
 have hsn:s.Nodup:=by
  have:(s.map obId).Nodup:=by rw[h1];exact hMn
  exact zge this
 have hln:l.Nodup:=zge hnd
 have hp:s.Perm l:=(List.perm_ext_iff_of_nodup hsn hln).2 fun o=>⟨h2 o,fun ho=>by
  have:obId o∈s.map obId:=by rw[h1];exact hM.mem_iff.2 (List.mem_map.2 ⟨o,ho,rfl⟩)
  obtain ⟨q,hq,e⟩:=List.mem_map.1 this
  have:=zd1 hnd (h2 q hq) ho e
  rw[← this]
  exact hq⟩
 refine ⟨hp,⟨by rw[hp.length_eq];exact hc,fun o ho=>hok o (h2 o ho),?_,rfl⟩⟩
 have hr:(s.map obId).Pairwise fun a b=>zay a b=true:=by
  rw[h1]
  have hb:=List.Pairwise.and hf hMn
  refine List.Pairwise.imp (fun {a b} h => ?_) hb
  cases h3:zay a b with
  | true=>rfl
  | false=>exact absurd (zdv _ _ h3 h.1) h.2
 unfold RisO
 rw[List.pairwise_map] at hr
 exact hr
theorem zmi:∀ (n:Nat) (l:List UInt8),l.length=n→lb (be l) n=l:=by
 intro n
 induction n with
 | zero=>intro l h;rw[List.eq_nil_of_length_eq_zero h];simp[lb]
 | succ n ih =>
  intro l h
  obtain ⟨x,t,rfl⟩:∃ x t,l=t++[x]:=⟨l.getLast (by intro e;simp[e] at h),l.dropLast,(List.dropLast_concat_getLast _).symm⟩
  have ht:t.length=n:=by simpa using h
  have hx:=x.toNat_lt
  have hs:∀ v,lb v (n+1)=lb (v / 256) n++[UInt8.ofNat v]:=fun v=>by
   unfold lb
   rw[List.range_succ,List.map_append]
   congr 1
   ·apply List.map_congr_left
    intro i hi
    have hi:=List.mem_range.1 hi
    congr 1
    rw[show n+1 - 1 - i=(n - 1 - i)+1 from by omega,Nat.pow_succ,Nat.mul_comm,Nat.div_div_eq_div_mul]
   ·simp
  rw[hs,zfm,show (be t*256+x.toNat) / 256=be t from by omega,ih t ht]
  congr 2
  apply UInt8.toNat_inj.1
  simp
theorem zp8 {l m:List UInt8} {o:Ob} (h:rdO l 0=(o,m,0)):l=obB o++m:=by
 unfold rdO numS at h
 have hnb:nb 1=1:=by decide
 simp only[hnb,if_true] at h
 by_cases h1:l.length<1
 ·rw[if_pos h1] at h
  simp[zal] at h
 ·rw[if_neg h1] at h
  obtain ⟨x,t,rfl⟩:∃ x t,l=x::t:=by
   cases l with
   | nil=>simp at h1
   | cons x t=>exact ⟨x,t,rfl⟩
  simp only[List.take_succ_cons,List.take_zero,List.drop_succ_cons,List.drop_zero] at h
  unfold zal at h
  simp only[if_true] at h
  by_cases h2:t.length<4
  ·rw[if_pos h2] at h;simp at h
  ·rw[if_neg h2] at h
   by_cases h3:65536<be (t.take 4)
   ·rw[if_pos h3] at h;simp at h
   ·rw[if_neg h3] at h
    by_cases h4:t.length<4+be (t.take 4)
    ·rw[if_pos h4] at h;simp at h
    ·rw[if_neg h4] at h
     simp only[Prod.mk.injEq,and_true] at h
     obtain ⟨ho,hm⟩:=h
     obtain ⟨k,d⟩:=o
     simp only[Prod.mk.injEq] at ho
     obtain ⟨hk,hd⟩:=ho
     have hbx:be [x]=x.toNat:=by simp[be]
     rw[hbx] at hk
     subst hk
     have hdl:d.length=be (t.take 4):=by rw[← hd];simp;omega
     have hlb:lb d.length 4=t.take 4:=by rw[hdl];exact zmi 4 _ (by simp;omega)
     unfold obB putL layS
     rw[hlb]
     have hx:UInt8.ofInt ((x.toNat:Nat):Int)=x:=by
      apply UInt8.toNat_inj.1
      have:=x.toNat_lt
      simp[UInt8.ofInt]
      omega
     simp only[hx]
     rw[← hm,← hd]
     simp only[List.cons_append,List.append_assoc,List.cons.injEq,true_and,List.nil_append]
     rw[List.take_append_drop,List.take_append_drop]
theorem zsc {n:Nat} {l m:List UInt8} {s:List Ob} (h:rdOs n l 0=(s,m,0)):l=s.flatMap obB++m∧s.length=n:=by
 induction n generalizing m s with
 | zero =>
  unfold rdOs at h
  simp only[Prod.mk.injEq,and_true] at h
  obtain ⟨rfl,rfl⟩:=h
  exact ⟨by simp,rfl⟩
 | succ n ih =>
  unfold rdOs at h
  obtain ⟨s0,m0,e0⟩:∃ a b,(rdOs n l 0).1=a∧(rdOs n l 0).2.1=b:=⟨_,_,rfl,rfl⟩
  obtain ⟨e0,e1⟩:=e0
  by_cases he:(rdOs n l 0).2.2=0
  ·have h0:rdOs n l 0=(s0,m0,0):=Prod.ext e0 (Prod.ext e1 he)
   obtain ⟨i1,i2⟩:=ih h0
   rw[h0] at h
   simp only[Prod.mk.injEq] at h
   obtain ⟨h1,h2,h3⟩:=h
   obtain ⟨o,ho⟩:∃ o,o=(rdO m0 0).1:=⟨_,rfl⟩
   have hr:rdO m0 0=(o,m,0):=Prod.ext ho.symm (Prod.ext h2 h3)
   have:=zp8 hr
   rw[← h1,← ho]
   refine ⟨?_,by simp[i2]⟩
   rw[i1,this]
   simp
  ·exfalso
   simp only[Prod.mk.injEq] at h
   have h3:=h.2.2
   have:(rdO (rdOs n l 0).2.1 (rdOs n l 0).2.2).2.2=(rdOs n l 0).2.2:=by
    unfold rdO numS zal
    rw[if_neg he]
    simp only[if_neg he]
   rw[this] at h3
   exact he h3
def plC (x:List UInt8) (a n:Nat):List Value:=x.map bv++[.int .i64 (a:Int),.int .i64 (n:Int)]
def offO (s:List Ob) (j:Nat):Nat:=6+((s.take j).flatMap obB).length
structure KPl (s:List Ob) (K:List (List UInt8 × Value)):Prop where
 keys:∀ x,x∈K.map (·.1)↔x∈s.map obId
 get:∀ j (h:j<s.length),getK K (obId s[j])=some (.agg (plC (obId s[j]) (offO s j) (5+s[j].2.length)).toArray)
theorem KPl.nil:KPl [] []:=⟨by simp,fun j h=>by simp at h⟩
theorem KPl.put {s:List Ob} {K:List (List UInt8 × Value)} (h:KPl s K) {o:Ob} (hn:obId o∉s.map obId):KPl (s++[o]) (putK K (obId o) (.agg (plC (obId o) (6+(s.flatMap obB).length) (5+o.2.length)).toArray)):=by
 have hk:obId o∉K.map (·.1):=fun hh=>hn ((h.keys _).1 hh)
 have e:putK K (obId o) (.agg (plC (obId o) (6+(s.flatMap obB).length) (5+o.2.length)).toArray)=K++[(obId o,.agg (plC (obId o) (6+(s.flatMap obB).length) (5+o.2.length)).toArray)]:=by unfold putK;rw[if_neg hk]
 rw[e]
 refine ⟨fun x => ?_,fun j hj => ?_⟩
 ·rw[List.map_append,List.mem_append,List.map_append,List.mem_append,h.keys]
  simp
 ·have hl:j<s.length∨j=s.length:=by simp at hj;omega
  rcases hl with hl | rfl
  ·have e1:(s++[o])[j]=s[j]:=List.getElem_append_left hl
   have e2:offO (s++[o]) j=offO s j:=by unfold offO;rw[List.take_append_of_le_length (by omega)]
   rw[e1,e2]
   have:=h.get j hl
   unfold getK at this ⊢
   rw[List.find?_append]
   cases hf:K.find? (fun p=>p.1 == obId s[j]) with
   | none=>rw[hf] at this;cases this
   | some p=>rw[hf] at this;simpa using this
  ·have e1:(s++[o])[s.length]=o:=by simp
   have e2:offO (s++[o]) s.length=6+(s.flatMap obB).length:=by unfold offO;simp
   rw[e1,e2]
   unfold getK
   have hf:K.find? (fun p=>p.1 == obId o)=none:=List.find?_eq_none.2 fun p hp=>by
    have:p.1≠obId o:=fun e=>hk (List.mem_map.2 ⟨p,hp,e⟩)
    simpa using this
   rw[List.find?_append,hf]
   simp
theorem zp9 {b:List UInt8} {t:List Ob} (h:PackOf b t) {i:Nat} {s:List Ob} {m:List UInt8} (hr:rdOs i (t.flatMap obB) 0=(s,m,0)) (hi:i<t.length) :
  ∃ o m',rdO m 0=(o,m',0)∧OkO o∧∀ x,s.getLast? = some x→zay (obId x) (obId o)=true:=by
 have h1:=zl9 t i [] h.ok (by omega)
 rw[List.append_nil,hr] at h1
 simp only[Prod.mk.injEq,and_true,List.append_nil] at h1
 obtain ⟨rfl,rfl⟩:=h1
 rw[List.drop_eq_getElem_cons hi,List.flatMap_cons]
 refine ⟨t[i],(t.drop (i+1)).flatMap obB,zk3 (h.ok _ (List.getElem_mem hi)) _,h.ok _ (List.getElem_mem hi),fun x hx => ?_⟩
 have hi0:0<i:=by
  rcases Nat.eq_zero_or_pos i with rfl | h0
  ·simp at hx
  ·exact h0
 rw[List.getLast?_eq_getElem?] at hx
 have hl:(t.take i).length=i:=by simp;omega
 rw[hl,List.getElem?_take_of_lt (by omega),List.getElem?_eq_getElem (by omega)] at hx
 injection hx with hx
 rw[← hx]
 exact List.pairwise_iff_getElem.1 h.ris (i - 1) i (by omega) hi (by omega)
structure Opn (b:List UInt8) (n i:Nat) (s:List Ob) (li:List UInt8):Prop where
 mark:b.take 4=[67,80,75,49]
 head:∃ m,numS (b.drop 4) 0 2=(n,m,0)∧rdOs i m 0=(s,li,0)
 ok:∀ o∈s,OkO o
 ris:RisO s
theorem zqa {l m:List UInt8} {n:Nat} (h:numS l 0 2=(n,m,0)):l=lb n 2++m∧n<65536:=by
 unfold numS at h
 have hnb:nb 2=2:=by decide
 simp only[hnb,if_true] at h
 by_cases h1:l.length<2
 ·rw[if_pos h1] at h;simp at h
 ·rw[if_neg h1] at h
  simp only[Prod.mk.injEq,and_true] at h
  obtain ⟨h2,h3⟩:=h
  have hl:(l.take 2).length=2:=by simp;omega
  have h4:=zi3 (l.take 2)
  rw[hl] at h4
  refine ⟨?_,by omega⟩
  rw[← h2,zmi 2 _ hl,← h3,List.take_append_drop]
theorem Opn.start {b m:List UInt8} {n:Nat} (h:b.take 4=[67,80,75,49]) (hn:numS (b.drop 4) 0 2=(n,m,0)):Opn b n 0 [] m :=
 ⟨h,⟨m,hn,rfl⟩,by simp,List.Pairwise.nil⟩
theorem Opn.eq {b li:List UInt8} {n i:Nat} {s:List Ob} (h:Opn b n i s li):b=zds n++(s.flatMap obB++li)∧s.length=i:=by
 obtain ⟨m,h1,h2⟩:=h.head
 obtain ⟨e1,e2⟩:=zsc h2
 refine ⟨?_,e2⟩
 have e3:=(zqa h1).1
 rw[← List.take_append_drop 4 b,h.mark,e3,e1]
 simp[zds]
theorem Opn.at {b li:List UInt8} {n i:Nat} {s:List Ob} (h:Opn b n i s li):b.length=6+(s.flatMap obB).length+li.length:=by
 have:=congrArg List.length h.eq.1
 rw[List.length_append,zfg,List.length_append] at this
 omega
theorem Opn.falls {b li l2:List UInt8} {n i:Nat} {s:List Ob} (h:Opn b n i s li) (hi:i<n) {o:Ob} {e:Int} (hr:rdO li 0=(o,l2,e)) (hf:e≠0∨¬ OkO o∨∃ x,s.getLast? = some x∧zay (obId x) (obId o)=false):∀ t,¬ PackOf b t:=by
 intro t ht
 obtain ⟨m,h1,h2⟩:=h.head
 obtain ⟨-,-,h3,h4⟩:=zcy ht
 rw[h1] at h3
 injection h3 with e1 e2
 injection e2 with e2 _
 subst e1 e2
 obtain ⟨p,m2,q1,q2,q3⟩:=zp9 ht h2 hi
 rw[hr] at q1
 injection q1 with r1 r2
 injection r2 with r2 r3
 subst r1
 rcases hf with hf | hf | ⟨x,hx,hf⟩
 ·exact hf r3
 ·exact hf q2
 ·rw[q3 x hx] at hf;cases hf
theorem zmj {s:List Ob} (h:RisO s) {o:Ob} (hl:∀ x,s.getLast? = some x→zay (obId x) (obId o)=true):RisO (s++[o]):=by
 refine List.pairwise_append.2 ⟨h,List.pairwise_singleton _ _,fun a ha y hy => ?_⟩
 rw[List.mem_singleton] at hy
 subst hy
 rcases List.eq_nil_or_concat s with rfl | ⟨t,x,rfl⟩
 ·cases ha
 ·have hx:=hl x (by simp)
  rw[List.concat_eq_append] at ha h
  rcases List.mem_append.1 ha with ha | ha
  ·exact zdw _ _ _ ((List.pairwise_append.1 h).2.2 a ha x (by simp)) hx
  ·rw[List.mem_singleton] at ha
   rw[ha];exact hx
theorem Opn.next {b li l2:List UInt8} {n i:Nat} {s:List Ob} (h:Opn b n i s li) {o:Ob} (hr:rdO li 0=(o,l2,0)) (ho:OkO o) (hl:∀ x,s.getLast? = some x→zay (obId x) (obId o)=true):Opn b n (i+1) (s++[o]) l2∧li.length=5+o.2.length+l2.length:=by
 obtain ⟨m,h1,h2⟩:=h.head
 refine ⟨⟨h.mark,⟨m,h1,?_⟩,fun p hp => ?_,zmj h.ris hl⟩,?_⟩
 ·unfold rdOs
  rw[h2]
  simp only
  rw[hr]
 ·rcases List.mem_append.1 hp with hp | hp
  ·exact h.ok p hp
  ·rw[List.mem_singleton] at hp
   rw[hp];exact ho
 ·have:=congrArg List.length (zp8 hr)
  rw[List.length_append,zht] at this
  exact this
theorem Opn.fresh {s:List Ob} (h:RisO s) {o:Ob} (hl:∀ x,s.getLast? = some x→zay (obId x) (obId o)=true):obId o∉s.map obId:=by
 have:=(zmj h hl).nodup
 rw[List.map_append,List.nodup_append] at this
 intro hm
 exact this.2.2 _ hm _ (by simp) rfl
theorem Opn.ends {b:List UInt8} {n:Nat} {s:List Ob} (h:Opn b n n s []) (hn:n≤256):PackOf b s:=by
 obtain ⟨e1,e2⟩:=h.eq
 refine ⟨by omega,h.ok,h.ris,?_⟩
 rw[e1,List.append_nil,zd0,e2]
theorem Opn.left {b li:List UInt8} {n:Nat} {s:List Ob} (h:Opn b n n s li) (hl:li≠[]):∀ t,¬ PackOf b t:=by
 intro t ht
 obtain ⟨m,h1,h2⟩:=h.head
 obtain ⟨-,-,h3,h4⟩:=zcy ht
 rw[h1] at h3
 injection h3 with e1 e2
 injection e2 with e2 _
 subst e1 e2
 rw[h2] at h4
 injection h4 with _ q
 injection q with q _
 exact hl q
theorem zuc {b:List UInt8} (h:(rawS b 0 4).1≠[67,80,75,49]):∀ t,¬ PackOf b t:=by
 intro t ht
 obtain ⟨h1,h2,-,-⟩:=zcy ht
 apply h
 unfold rawS
 rw[if_pos rfl,if_neg (by simp;omega)]
 exact h2
theorem zud {b:List UInt8} (h:(rawS b 0 4).1=[67,80,75,49]):b.take 4=[67,80,75,49]∧rawS b 0 4=(b.take 4,b.drop 4,0):=by
 unfold rawS at h ⊢
 rw[if_pos rfl] at h ⊢
 by_cases hl:b.length<(4:Int).toNat
 ·rw[if_pos hl] at h;simp at h
 ·rw[if_neg hl] at h ⊢
  exact ⟨h,rfl⟩
theorem zs1 {b m:List UInt8} {n:Nat} {e:Int} (h:numS (b.drop 4) 0 2=(n,m,e)) (hf:e≠0∨256<n):∀ t,¬ PackOf b t:=by
 intro t ht
 obtain ⟨-,-,h3,h4⟩:=zcy ht
 rw[h] at h3
 injection h3 with e1 e2
 injection e2 with _ e3
 have:=ht.few
 rcases hf with hf | hf
 ·exact hf e3
 ·omega
theorem zsd {l m:List UInt8} {n:Nat} {e:Int} (h:numS l 0 2=(n,m,e)) (he:e≠0):n=0∧m=[]:=by
 unfold numS at h
 rw[if_pos rfl] at h
 split at h
 ·injection h with e1 e2
  injection e2 with e2 _
  exact ⟨e1.symm,e2.symm⟩
 ·injection h with e1 e2
  injection e2 with _ e3
  exact absurd e3.symm he
theorem zqb (l:List UInt8) (e:Int):(numS l e 2).1<65536:=by
 unfold numS
 have hnb:nb 2=2:=by decide
 have h1:=zi3 (l.take 2)
 have h2:256 ^ (l.take 2).length≤256 ^ 2:=Nat.pow_le_pow_right (by omega) (by simp;omega)
 rw[hnb]
 split
 ·split
  ·simp
  ·simp only;omega
 ·simp
theorem zqc (l:List UInt8) (e:Int):(numS l e 1).1<256:=by
 unfold numS
 have hnb:nb 1=1:=by decide
 have h1:=zi3 (l.take 1)
 have h2:256 ^ (l.take 1).length≤256 ^ 1:=Nat.pow_le_pow_right (by omega) (by simp;omega)
 rw[hnb]
 split
 ·split
  ·simp
  ·simp only;omega
 ·simp
theorem zfy (l:List UInt8) (e n:Int):(numS l e n).2.1.length≤l.length:=by
 unfold numS
 split
 ·split
  ·simp
  ·simp
 ·simp
theorem zgf (l:List UInt8) (e:Int):(zal l e).2.1.length≤l.length∧(zal l e).1.length≤l.length:=by
 unfold zal
 split
 ·split
  ·simp
  ·split
   ·simp
   ·split
    ·simp
    ·simp;omega
 ·simp
def zs2 (w w' : World) (b:List UInt8) (e:Ending):Prop :=
 (∃ v m s K,e = .returned (.tuple #[v,.map (some m),.int .i64 0])∧PackOf b s∧w'.ownsRow w.heap.size 47 32 v s.length ((s.map obId).flatMap (·.map bv))∧MapAt w' m K∧KPl s K∧w.grownBy w' none) ∨
 (e = .returned (.tuple #[.slice none 0 0,.map none,.int .i64 11])∧(∀ t,¬ PackOf b t)∧w.grownBy w' none)
theorem Rd.asBlk {w:World} {rb:Nat} {l:List UInt8} {e:Int} (h:Rd w rb l e):∃ v,Blk w rb 114 [v,.int .i64 e]:=by
 obtain ⟨ao,c,h1,_,_⟩:=h
 exact ⟨_,h1⟩
structure OpM (u w:World) (rb mB:Nat) (v:Value) (i:Nat) (s:List Ob) (li:List UInt8) (e:Int):Prop where
 rd:Rd w rb li e
 own:w.ownsRow u.heap.size 47 32 v i ((s.map obId).flatMap (·.map bv))
 map:∃ K,MapAt w mB K∧KPl s K
 gr:u.grownBy w none
 nr:u.heap.size≤rb
 nm:u.heap.size≤mB
theorem zgp {w a:World} {base n k:Nat} {t:TypeId} {v:Value} {xs:List Value} (h:w.ownsRow base t k v n xs) (g:w.grownBy a none):a.ownsRow base t k v n xs :=
 h.kept g (by cases v.ownBlock <;> simp)
theorem OpM.stay {u w a:World} {rb mB i:Nat} {v:Value} {s:List Ob} {li:List UInt8} {e:Int} (h:OpM u w rb mB v i s li e) (g:w.grownBy a none):OpM u a rb mB v i s li e:=by
 obtain ⟨K,h1,h2⟩:=h.map
 exact ⟨h.rd.kept g (Or.inl rfl),zgp h.own g,⟨K,h1.none g,h2⟩,tn h.gr g,h.nr,h.nm⟩
theorem OpM.read {u w a:World} {rb mB i:Nat} {v:Value} {s:List Ob} {li l2:List UInt8} {e e2:Int} (h:OpM u w rb mB v i s li e) (hr:Rd a rb l2 e2) (g:w.grownBy a (some rb)):OpM u a rb mB v i s l2 e2:=by
 obtain ⟨K,h1,h2⟩:=h.map
 obtain ⟨x,hB⟩:=h.rd.asBlk
 refine ⟨hr,h.own.kept g (Or.inr fun e=>zao h.own hB (by decide) e.symm),⟨K,h1.kept g (fun e=>by injection e with e;exact h1.blk hB e),h2⟩,zae h.gr g (fun y e=>Or.inl (by injection e with e;have:=h.nr;omega)),h.nr,h.nm⟩
theorem OpM.name {u w a:World} {rb mB i:Nat} {v:Value} {s:List Ob} {li:List UInt8} {e:Int} (h:OpM u w rb mB v i s li e) (g:w.grownBy a v.ownBlock) :
  Rd a rb li e∧(∃ K,MapAt a mB K∧KPl s K)∧u.grownBy a none:=by
 obtain ⟨K,h1,h2⟩:=h.map
 obtain ⟨x,hB⟩:=h.rd.asBlk
 refine ⟨h.rd.keptTyp g (fun y e=>⟨fun e2 => ?_,zcq h.own e (by decide)⟩),⟨K,h1.kept g (h1.own h.own),h2⟩,zae h.gr g (fun y e=>Or.inl (h.own.lt y e).1)⟩
 subst e2
 exact zao h.own hB (by decide) e.symm
theorem OpM.place {u w a:World} {rb mB i:Nat} {v:Value} {s2:List Ob} {li:List UInt8} {e:Int} {K K2:List (List UInt8 × Value)} (hr:Rd w rb li e) (ho:w.ownsRow u.heap.size 47 32 v i ((s2.map obId).flatMap (·.map bv)))
  (hm:MapAt w mB K) (hg:u.grownBy w none) (nr:u.heap.size≤rb) (nm:u.heap.size≤mB) (g:w.grownBy a (some mB)) (hm2:MapAt a mB K2) (hk:KPl s2 K2):OpM u a rb mB v i s2 li e:=by
 obtain ⟨x,hB⟩:=hr.asBlk
 refine ⟨hr.keptTyp g (fun y e=>⟨fun e2 => ?_,?_⟩),zpy ho hm g,⟨K2,hm2,hk⟩,zae hg g (fun y e=>Or.inl (by injection e with e;omega)),nr,nm⟩
 ·injection e with e
  exact hm.blk hB (by omega)
 ·injection e with e
  rw[← e];exact hm.typ
theorem zj3 (x:List UInt8) (hx:x.length=32) (a n:Nat):Tryz.prog.built 49 [(0,.agg (x.map bv).toArray),(1,.int .i64 (a:Int)),(2,.int .i64 (n:Int))]=some (plC x a n).toArray:=by
 obtain ⟨a0,a1,a2,a3,a4,a5,a6,a7,a8,a9,a10,a11,a12,a13,a14,a15,a16,a17,a18,a19,a20,a21,a22,a23,a24,a25,a26,a27,a28,a29,a30,a31,rfl⟩:=zea x hx
 kernel_rfl
theorem znz (k:Int) (ao:Option Addr) (n c:Nat):Tryz.prog.built 42 [(0,.int .i64 k),(1,.slice ao n c)]=some #[.int .i64 k,.slice ao n c]:=by kernel_rfl
structure ObjR where
 kind:Nat
 data:List UInt8
 ao:Option Addr
 c:Nat
deriving Inhabited
def obC (r:ObjR):List Value:=[.int .i64 (r.kind:Int),.slice r.ao r.data.length r.c]
theorem zqd:(Tryz.prog.info? 42).map (fun i=>(i.zero,i.size,i.bytes))=some (some (.agg #[.int .i64 0,.slice none 0 0]),2,32):=by kernel_rfl
theorem zfz {w:World} {ops:Array Oper} {rest:List Oper} {o:Oper} {a:Act} {Q:Exit→Act→World→Prop} (hgd:o.guard=none) (s x:Operand)
  (ho:o.op = .call { callee := .builtin .append,args := #[s,x],argTypes := #[22,22] })
  (base:Nat) (v:Value) (n:Nat) (xs:List Value) (hs:a.eval s=v) (hown:w.ownsRow base 42 2 v n xs) (p:Nat) (EC:List Value) (hB:Blk w p 42 EC) (hEl:EC.length=2) (hE1:∀ u∈EC,u.oneCell'=true)
  (hx:a.eval x = .slice (some ⟨p,0,none⟩) 1 1) (hn:n≤100000) (hbase:base≤w.heap.size)
  (h:∀ v' w',w'.ownsRow base 42 2 v' (n+1) (xs++EC)→w.grownBy w' v.ownBlock→wpList Tryz.prog ops Q rest (a.put o.dst v') w'):wpList Tryz.prog ops Q (o::rest) a w:=by
 obtain ⟨i0,hi,hz0,hz1,hz2⟩:=info_parts zqd
 exact wpList_append_own w hgd s x 22 ho base 42 i0 _ 2 32 Tryz.underlying22 hi hz0 hz1 hz2 rfl (by decide) v n xs hs hown ⟨p,0,none⟩ 1 1 EC hx (by rw[hEl]) (fun j u hu=>World.news_of_block hB j u (by simpa using hu)) hE1 (by unfold maxLen;omega) (by omega) hbase (fun v' w' q1 q2 _=>h v' w' q1 q2)
theorem zue {w a:World} {base n:Nat} {v:Value} {xs:List Value} (h:w.ownsRow base 42 2 v n xs) (g:w.grownBy a none):a.ownsRow base 42 2 v n xs :=
 h.kept g (by
  by_cases e:v.ownBlock=none
  ·exact Or.inl e
  ·exact Or.inr e)
theorem zs3 (k:Int) (ao:Option Addr) (n c:Nat) (V:World):(Instr.buildSlice 22 1 #[(0,.agg #[.int .i64 k,.slice ao n c])]).run Tryz.prog V = .ok (.slice (some ⟨V.heap.size,0,none⟩) 1 1) (V.alloc (.cells #[.int .i64 k,.slice ao n c] 42)):=by kernel_rfl
structure Objs (w:World) (base:Nat) (v:Value) (R:List ObjR):Prop where
 own:w.ownsRow base 42 2 v R.length (R.flatMap obC)
 bts:∀ r∈R,Bts w r.ao r.c r.data
 typ:∀ r∈R,∀ ad,r.ao=some ad→Typ w ad.block
theorem Objs.nil (w:World) (base:Nat):Objs w base (.slice none 0 0) []:=⟨World.ownsRow_nil w base _ 2,(fun _ e=>by cases e),(fun _ e=>by cases e)⟩
theorem Objs.none {w a:World} {base:Nat} {v:Value} {R:List ObjR} (h:Objs w base v R) (g:w.grownBy a Option.none):Objs a base v R :=
 ⟨zue h.own g,fun r hr=>(h.bts r hr).kept g (fun _ e=>by cases e),fun r hr ad e=>(h.typ r hr ad e).kept g (by simp)⟩
theorem Objs.put {w a:World} {base:Nat} {v v2:Value} {R:List ObjR} (h:Objs w base v R) (r:ObjR) (hb:Bts w r.ao r.c r.data) (ht:∀ ad,r.ao=some ad→Typ w ad.block) (g:w.grownBy a v.ownBlock)
  (ho:a.ownsRow base 42 2 v2 (R.length+1) (R.flatMap obC++obC r)):Objs a base v2 (R++[r]):=by
 have ne:∀ x,v.ownBlock=some x→¬ Typ w x:=fun x e=>zcq h.own e (by decide)
 have all:∀ q∈R++[r],Bts w q.ao q.c q.data∧∀ ad,q.ao=some ad→Typ w ad.block:=by
  intro q hq
  rcases List.mem_append.1 hq with h1 | h1
  ·exact ⟨h.bts q h1,h.typ q h1⟩
  ·rw[List.mem_singleton.1 h1];exact ⟨hb,ht⟩
 refine ⟨by simpa using ho,fun q hq => ?_,fun q hq ad e => ?_⟩
 ·exact (all q hq).1.kept g (fun x e ad e2 e3=>ne x e (by rw[← e3];exact (all q hq).2 ad e2))
 ·exact ((all q hq).2 ad e).kept g (fun e2=>ne _ e2.symm ((all q hq).2 ad e))
theorem Objs.open {w:World} {base:Nat} {v:Value} {R:List ObjR} (h:Objs w base v R):∃ ao c,v = .slice ao R.length c∧∀ i (hi:i<R.length),∃ b o,ao=some ⟨b,o,Option.none⟩∧w.cell? ⟨b,o+i*2,Option.none⟩=some (.int .i64 (R[i].kind:Int))∧w.cell? ⟨b,o+i*2+1,Option.none⟩=some (.slice R[i].ao R[i].data.length R[i].c):=by
 obtain ⟨ao,c,h1,h2,h3,h4,h5,h6⟩:=zeh obC 2 h.own (fun _ _=>rfl)
 refine ⟨ao,c,h1,fun i hi => ?_⟩
 cases ao with
 | none=>have:=(h2 rfl).1;omega
 | some ad =>
  obtain ⟨b,o,sp⟩:=ad
  have hs:sp=Option.none:=(h5 _ rfl).1
  subst hs
  have hr:=h6 _ rfl i hi
  exact ⟨b,o,rfl,hr 0 _ rfl,hr 1 _ rfl⟩
theorem zse {P:Program} (W:World) (t e:TypeId) (ht:P.underlying t=some (.slice e)) (hz:∀ w,(Go.sizeOf e).run P w = .ok 1 w) (ao:Option Addr) (n c lo hi:Nat) (h1:lo≤hi) (h2:hi≤c) :
  (Instr.slice t (.slice ao n c) (some (.int .i64 (lo:Int))) (some (.int .i64 (hi:Int))) none).run P W = .ok (.slice (cutA ao c lo) (hi - lo) (c - lo)) W:=by
 have ht' : P.underlying t=some (.slice (P.elem t)):=by simp[Program.elem,ht]
 have he:P.elem t=e:=by simp[Program.elem,ht]
 rw[run_slice_lh W t _ _ _ ht' .i64 .i64 _ _ (by omega) (by omega) (by omega),he,hz]
 simp[Result.andThen,sliced,cutA]
theorem zu5 {o:Ob} (h:OkO o):rdL (obB o)=(0,o.1,o.2):=by
 have h1:=zk3 h []
 rw[List.append_nil] at h1
 unfold rdO at h1
 simp only[Prod.mk.injEq] at h1
 obtain ⟨h2,h3,h4⟩:=h1
 have h5:=congrArg Prod.fst h2
 have h6:=congrArg Prod.snd h2
 simp only at h5 h6
 unfold rdL
 simp only
 rw[h3,h4,h6,h5]
 have:zb4 [] 0=0∧zap o.1 o.2=0:=⟨rfl,h⟩
 rw[if_pos this]
theorem zqe (x:List UInt8) (hx:x.length=32) (a n:Nat):(plC x a n).length=34:=by simp[plC,hx]
theorem zu6 (x:List UInt8) (hx:x.length=32) (a n:Nat):(plC x a n)[32]? = some (.int .i64 (a:Int)):=by
 unfold plC
 rw[List.getElem?_append_right (by simp[hx])]
 simp[hx]
theorem zu7 (x:List UInt8) (hx:x.length=32) (a n:Nat):(plC x a n)[33]? = some (.int .i64 (n:Int)):=by
 unfold plC
 rw[List.getElem?_append_right (by simp[hx])]
 simp[hx]
set_option maxHeartbeats 2000000 in
theorem zhx (w:World) (ao:Option Addr) (c:Nat) (b:List UInt8) (hb:Bts w ao c b) (hl:b.length≤100000) (x:List UInt8) (hx:x.length=32) (a n:Nat) (ha:a+n≤b.length) (o:Ob) (hok:OkO o) (hseg:(b.drop a).take n=obB o) :
  Calls Tryz.prog 30 #[.slice ao b.length c,.agg (plC x a n).toArray] w fun e w'=>∃ v,e = .returned (.agg #[.int .i64 o.1,v])∧NewB w w' v o.2∧w.grownBy w' none:=by
 have hfit:=hb.fits
 obtain ⟨PC,hPC⟩:∃ p,p=plC x a n:=⟨_,rfl⟩
 rw[← hPC]
 obtain ⟨W1,hW1,hB1,g1⟩:=zag w 49 PC
 obtain ⟨W2,hW2,hB2,g2⟩:∃ W2,W2=W1.alloc (.cells #[.int .i64 0,.slice none 0 0] 42)∧Blk W2 W1.heap.size 42 [.int .i64 0,.slice none 0 0]∧W1.grownBy W2 none:=zag W1 _ _
 have hs1:W1.heap.size=w.heap.size+1:=by rw[hW1];simp
 rw[hs1] at hB2
 have G2:=tn g1 g2
 have hB12:=hB1.kept g2 (by simp)
 have c32:W2.cell? ⟨w.heap.size,32,none⟩=some (.int .i64 (a:Int)):=by rw[hB12.cell 32,hPC];exact zu6 x hx a n
 have c33:W2.cell? ⟨w.heap.size,33,none⟩=some (.int .i64 (n:Int)):=by rw[hB12.cell 33,hPC];exact zu7 x hx a n
 obtain ⟨hi,hhi⟩:∃ z,z=a+n:=⟨_,rfl⟩
 have hsl:=fun W=>zse W 24 5 Tryz.underlying24 za3 ao b.length c a hi (by omega) (by omega)
 have eah:(a:Int)+(n:Int)=(hi:Int):=by omega
 have hbs:Bts W2 (cutA ao c a) (c - a) (obB o):=by
  have:=((hb.kept G2 (fun _ e=>by cases e)).drop a (by omega)).take n (by simp;omega)
  rw[hseg] at this
  exact this
 have hol:(obB o).length=n:=by rw[← hseg];simp;omega
 have hbl:=hol
 have cr:=zpk W2 _ _ (obB o) hbs (by omega)
 rw[zu5 hok] at cr
 rw[hol] at cr
 have hin:hi - a=n:=by omega
 rw[hin] at hsl
 obtain ⟨bn,hbn⟩:∃ z,z=b.length:=⟨_,rfl⟩
 rw[← hbn] at hsl ⊢
 have HS:w.heap.size+2≤W2.heap.size:=by have:=hB2.lt;omega
 have HW:=hide (show W2=(w.alloc (.cells PC.toArray 49)).alloc (.cells #[.int .i64 0,.slice none 0 0] 42) by rw[hW2,hW1])
 obtain ⟨HB2,HG2,HSL⟩:=zh3 hB2 G2 hsl
 have hn9:n≤100000:=by omega
 have ha9:a≤100000:=by omega
 clear hsl hW1 hW2 hB1 hB2 g1 g2 hs1 G2 hB12 hPC hhi hbs hol hbl hbn hin hb hl ha hseg hfit
 go_enter Tryz.func30,Tryz.ntmps30
 have hsl:=uh HSL
 go_wp2_with (rw[← uh HW])
 refine cr.mono ?_
 rintro e w3 ⟨v3,y3,k3,rfl,rfl,rfl,⟨a3,x3,rfl,hb3,ht3⟩,g3⟩
 clear cr
 obtain ⟨W4,hW4,hB4,g4⟩:=zag w3 42 [.int .i64 o.1,.slice a3 o.2.length x3]
 have hBr:=(uh HB2).kept (tn g3 g4) (by simp)
 have hc0:W4.cell? ⟨w3.heap.size,0,none⟩=some (.int .i64 o.1):=by rw[hB4.cell 0];rfl
 have hc1:W4.cell? ⟨w3.heap.size,1,none⟩=some (.slice a3 o.2.length x3):=by rw[hB4.cell 1];rfl
 have HN:=hide (And.intro hb3 ht3)
 have HG4:=hide (tn g3 g4)
 have G34:=g4
 have HW4:=hide (show W4=w3.alloc (.cells #[.int .i64 o.1,.slice a3 o.2.length x3] 42) from hW4)
 clear hb3 ht3 g3 g4 hW4 hB4
 go_wp2_with (first
  | (rw[← uh HW4])
  | (refine wpList_store_row rfl 42 _ _ rfl (w.heap.size+1) #[.int .i64 o.1,.slice a3 o.2.length x3] rfl rfl _ _ hBr zax rfl (zes rfl) ?_))
 have hs2:w.heap.size+2≤W2.heap.size:=HS
 have g5:W4.grownBy (W4.setRow (w.heap.size+1) #[.int .i64 o.1,.slice a3 o.2.length x3]) (some (w.heap.size+1)):=zar (zaa _ _) _ (Or.inr rfl)
 obtain ⟨hb3,ht3⟩:=uh HN
 have g4:w3.grownBy W4 none:=G34
 have hb4:=hb3.kept g4 (fun _ e=>by cases e)
 refine bodyPost_ret (results_cell_row rfl _ _ _ _ _ _ _ rfl (hBr.row [.int .i64 o.1,.slice a3 o.2.length x3]) Tryz.underlying42 rfl zax) rfl ?_
 refine ⟨_,rfl,⟨a3,x3,rfl,hb4.kept g5 (fun x e => ?_),fun ad e=>⟨?_,((ht3 ad e).2.kept g4 (by simp)).kept g5 ?_⟩⟩,zar (tn (uh HG2) (uh HG4)) _ (Or.inl (Nat.le_succ _))⟩
 ·cases e
  intro ad e2
  have:=(ht3 ad e2).1
  omega
 ·have:=(ht3 ad e).1
  omega
 ·have:=(ht3 ad e).1
  simp only[ne_eq,Option.some.injEq]
  omega
def obAt (l:List Ob) (i:Nat):Ob:=l.getD i (0,[])
def nmAt (l:List Ob) (i:Nat):List UInt8:=obId (obAt l i)
theorem zc3 {l:List Ob} {i:Nat} (h:i<l.length):obAt l i=l[i]:=by
 unfold obAt
 rw[List.getD_eq_getElem?_getD,List.getElem?_eq_getElem h]
 rfl
theorem zu8 {l:List Ob} (hn:(l.map obId).Nodup) {i j:Nat} (hi:i<l.length) (hj:j<l.length) (h:nmAt l i=nmAt l j):i=j:=by
 unfold nmAt at h
 rw[zc3 hi,zc3 hj] at h
 have key:∀ a b (ha:a<l.length) (hb:b<l.length),a<b→obId l[a]≠obId l[b]:=fun a b ha hb hab=>by
  have:=List.pairwise_iff_getElem.1 hn a b (by simpa using ha) (by simpa using hb) hab
  simpa using this
 rcases Nat.lt_trichotomy i j with q | q | q
 ·exact absurd h (key i j hi hj q)
 ·exact q
 ·exact absurd h.symm (key j i hj hi q)
structure Sel (l:List Ob) (P:List Nat):Prop where
 lt:∀ i∈P,i<l.length
 ris:P.Pairwise fun a b=>zay (nmAt l a) (nmAt l b)=true
 rest:∀ i,i<l.length→i∈P∨∀ p∈P,zay (nmAt l p) (nmAt l i)=true
theorem Sel.nil (l:List Ob):Sel l []:=⟨(fun _ h=>by cases h),List.Pairwise.nil,fun _ _=>Or.inr fun _ h=>by cases h⟩
theorem Sel.nodup {l:List Ob} {P:List Nat} (h:Sel l P):P.Nodup:=List.Pairwise.imp (fun {a b} q e=>by subst e;rw[zc9] at q;cases q) h.ris
def zn0 (P:List Nat):Int:=match P.getLast? with | some p=>(p:Int) | none => -1
theorem zhy (P:List Nat) (b:Nat):zn0 (P++[b])=(b:Int):=by simp[zn0]
theorem Sel.above {l:List Ob} {P:List Nat} {b:Nat} (h:Sel l (P++[b])) {i:Nat} (hi:i<l.length):zay (nmAt l b) (nmAt l i)=true↔i∉P++[b]:=by
 constructor
 ·intro hl hm
  rcases List.mem_append.1 hm with hm | hm
  ·have:=(List.pairwise_append.1 h.ris).2.2 i hm b (by simp)
   rw[zdu _ _ hl] at this
   cases this
  ·rw[List.mem_singleton.1 hm,zc9] at hl
   cases hl
 ·intro hm
  rcases h.rest i hi with q | q
  ·exact absurd q hm
  ·exact q b (by simp)
def Bst (l:List Ob) (P:List Nat) (j:Nat) (best:Int):Prop :=
 (best = -1∧∀ i,i<j→i∈P)∨∃ b:Nat,best=(b:Int)∧b<j∧b∉P∧∀ i,i<j→i∉P→zay (nmAt l i) (nmAt l b)=false
theorem Bst.start (l:List Ob) (P:List Nat):Bst l P 0 (-1):=Or.inl ⟨rfl,fun _ h=>by omega⟩
theorem Bst.skip {l:List Ob} {P:List Nat} {j:Nat} {best:Int} (h:Bst l P j best) (hj:j∈P):Bst l P (j+1) best:=by
 rcases h with ⟨h1,h2⟩ | ⟨b,h1,h2,h3,h4⟩
 ·exact Or.inl ⟨h1,fun i hi=>by by_cases e:i=j;(rw[e];exact hj);exact h2 i (by omega)⟩
 ·exact Or.inr ⟨b,h1,by omega,h3,fun i hi hn=>by by_cases e:i=j;(rw[e] at hn;exact absurd hj hn);exact h4 i (by omega) hn⟩
theorem Bst.first {l:List Ob} {P:List Nat} {j:Nat} (h:Bst l P j (-1)) (hj:j∉P):Bst l P (j+1) (j:Int):=by
 rcases h with ⟨-,h2⟩ | ⟨b,h1,-⟩
 ·exact Or.inr ⟨j,rfl,by omega,hj,fun i hi hn=>by by_cases e:i=j;(rw[e];exact zc9 _);exact absurd (h2 i (by omega)) hn⟩
 ·omega
theorem Bst.worse {l:List Ob} {P:List Nat} {j b:Nat} (h:Bst l P j (b:Int)) (hl:zay (nmAt l j) (nmAt l b)=false):Bst l P (j+1) (b:Int):=by
 rcases h with ⟨h1,-⟩ | ⟨c,h1,h2,h3,h4⟩
 ·omega
 ·obtain rfl:b=c:=by omega
  exact Or.inr ⟨b,rfl,by omega,h3,fun i hi hn=>by by_cases e:i=j;(rw[e];exact hl);exact h4 i (by omega) hn⟩
theorem Bst.better {l:List Ob} {P:List Nat} {j b:Nat} (h:Bst l P j (b:Int)) (hj:j∉P) (hl:zay (nmAt l j) (nmAt l b)=true):Bst l P (j+1) (j:Int):=by
 rcases h with ⟨h1,-⟩ | ⟨c,h1,h2,h3,h4⟩
 ·omega
 ·obtain rfl:b=c:=by omega
  refine Or.inr ⟨j,rfl,by omega,hj,fun i hi hn => ?_⟩
  by_cases e:i=j
  ·rw[e];exact zc9 _
  ·have:=h4 i (by omega) hn
   cases h5:zay (nmAt l i) (nmAt l j) with
   | false=>rfl
   | true=>rw[zdw _ _ _ h5 hl] at this;cases this
theorem Bst.sel {l:List Ob} {P:List Nat} {best:Int} (hn:(l.map obId).Nodup) (hS:Sel l P) (h:Bst l P l.length best) (hP:P.length<l.length):∃ b:Nat,best=(b:Int)∧b<l.length∧Sel l (P++[b]):=by
 rcases h with ⟨-,h2⟩ | ⟨b,h1,h2,h3,h4⟩
 ·exfalso
  have:=zel (K:=List.range l.length) (U:=P) List.nodup_range (fun x hx=>h2 x (List.mem_range.1 hx))
  rw[List.length_range] at this
  omega
 ·refine ⟨b,h1,h2,⟨fun i hi => ?_,?_,fun i hi => ?_⟩⟩
  ·rcases List.mem_append.1 hi with hi | hi
   ·exact hS.lt i hi
   ·rw[List.mem_singleton.1 hi];exact h2
  ·refine List.pairwise_append.2 ⟨hS.ris,List.pairwise_singleton _ _,fun a ha c hc => ?_⟩
   rw[List.mem_singleton.1 hc]
   rcases hS.rest b h2 with q | q
   ·exact absurd q h3
   ·exact q a ha
  ·by_cases hm:i∈P++[b]
   ·exact Or.inl hm
   ·have hiP:i∉P:=fun q=>hm (List.mem_append_left _ q)
    refine Or.inr fun p hp => ?_
    rcases List.mem_append.1 hp with hp | hp
    ·rcases hS.rest i hi with q | q
     ·exact absurd q hiP
     ·exact q p hp
    ·rw[List.mem_singleton.1 hp]
     cases h5:zay (nmAt l b) (nmAt l i) with
     | true=>rfl
     | false =>
      exfalso
      have:=zdv _ _ h5 (h4 i hi hiP)
      exact hm (List.mem_append_right _ (by rw[zu8 hn hi h2 this.symm];simp))
theorem Sel.all {l:List Ob} {P:List Nat} (h:Sel l P) (hP:P.length=l.length):(P.map (obAt l)).Perm l∧RisO (P.map (obAt l)):=by
 constructor
 ·have hp:P.Perm (List.range l.length):=(List.perm_ext_iff_of_nodup h.nodup List.nodup_range).2 fun i=>by
   rw[List.mem_range]
   refine ⟨h.lt i,fun hi => ?_⟩
   apply Classical.byContradiction
   intro hm
   have h1:(i::P).Nodup:=List.nodup_cons.2 ⟨hm,h.nodup⟩
   have:=zel (U:=List.range l.length) h1 fun x hx=>by
    rcases List.mem_cons.1 hx with rfl | hx
    ·exact List.mem_range.2 hi
    ·exact List.mem_range.2 (h.lt x hx)
   rw[List.length_range,List.length_cons] at this
   omega
  have e:(List.range l.length).map (obAt l)=l:=by
   refine List.ext_getElem (by simp) fun i h1 h2 => ?_
   simp only[List.getElem_map,List.getElem_range]
   exact zc3 h2
  have:=hp.map (obAt l)
  rw[e] at this
  exact this
 ·unfold RisO
  rw[List.pairwise_map]
  exact h.ris
end Go.Proofs.YtegbbkgmiklhcaaGreatDoor
