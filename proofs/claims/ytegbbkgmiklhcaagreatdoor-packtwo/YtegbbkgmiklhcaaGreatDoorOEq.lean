/- Lemmas. -/
import Derived.Test.YtegbbkgmiklhcaaGreatDoorPkLa
import Derived.Test.YtegbbkgmiklhcaaGreatDoorREq
import Derived.Test.YtegbbkgmiklhcaaGreatDoorSoSl
namespace Go.Proofs.YtegbbkgmiklhcaaGreatDoor
open Go.RowKit
theorem zbe (o:Ob):(obId o).length=32:=zcv _
structure KIx (l:List Ob) (i:Nat) (K:List (List UInt8 × Value)):Prop where
 keys:∀ x,x∈K.map (·.1)↔x∈(l.take i).map obId
 val:∀ p∈K,∃ j,j<i∧p.2 = .int .i64 (j:Int)∧∃ h:j<l.length,obId l[j]=p.1
theorem KIx.nil (l:List Ob):KIx l 0 []:=⟨by simp,by simp⟩
theorem KIx.put {l:List Ob} {i:Nat} {K:List (List UInt8 × Value)} (h:KIx l i K) (hi:i<l.length):KIx l (i+1) (putK K (obId l[i]) (.int .i64 (i:Int))):=by
 refine ⟨fun x => ?_,fun p hp => ?_⟩
 ·rw[List.take_succ_eq_append_getElem hi,List.map_append,List.mem_append]
  constructor
  ·intro hx
   obtain ⟨p,hp,rfl⟩:=List.mem_map.1 hx
   rcases (ze0 _ _ _).1 hp with rfl | ⟨hp,_⟩
   ·exact Or.inr (by simp)
   ·exact Or.inl ((h.keys _).1 (List.mem_map.2 ⟨p,hp,rfl⟩))
  ·intro hx
   by_cases e:x=obId l[i]
   ·subst e
    exact List.mem_map.2 ⟨_,(ze0 _ _ _).2 (Or.inl rfl),rfl⟩
   ·rcases hx with hx | hx
    ·obtain ⟨p,hp,rfl⟩:=List.mem_map.1 ((h.keys _).2 hx)
     exact List.mem_map.2 ⟨p,(ze0 _ _ _).2 (Or.inr ⟨hp,e⟩),rfl⟩
    ·exact absurd (by simpa using hx) e
 ·rcases (ze0 _ _ _).1 hp with rfl | ⟨hp,_⟩
  ·exact ⟨i,by omega,rfl,hi,rfl⟩
  ·obtain ⟨j,h1,h2,h3⟩:=h.val p hp
   exact ⟨j,by omega,h2,h3⟩
set_option maxRecDepth 100000 in
set_option maxHeartbeats 4000000 in
theorem zmr (w:World) (ao:Option Addr) (c:Nat) (L:List ObP) (hO:Obsl w ao c L) (hm:L.length≤300) (hd:∀ r∈L,r.d.length≤16384) (hT:Tabs w) :
  Calls Tryz.prog 22 #[.slice ao L.length c] w fun e w'=>∃ v m M K,e = .returned (.tuple #[v,.map (some m)])∧M.Perm ((L.map (·.o)).map obId)∧zjn M∧w'.ownsRow w.heap.size 47 32 v L.length (M.flatMap (·.map bv))∧MapAt w' m K∧KIx (L.map (·.o)) L.length K∧w.grownBy w' none:=by
 obtain ⟨n,hn⟩:∃ n,n=L.length:=⟨_,rfl⟩
 rw[← hn] at hm ⊢
 obtain ⟨W1,hW1,hB1,g1⟩:∃ W1,W1=w.alloc (.cells #[.slice none 0 0] 59)∧Blk W1 w.heap.size 59 [.slice none 0 0]∧w.grownBy W1 none:=zah w _ _
 obtain ⟨W2,hW2⟩:∃ W2,W2=W1.alloc (.map #[] 0):=⟨_,rfl⟩
 have g2:W1.grownBy W2 none:=by rw[hW2];exact zai (zab _ _) _
 have hs1:W1.heap.size=w.heap.size+1:=by rw[hW1];simp
 have hM2:MapAt W2 (w.heap.size+1) []:=by rw[hW2,← hs1];exact MapAt.new W1
 have hmk:∀ W:World,(Instr.makeMap 60 none).run Tryz.prog W = .ok (.map (some W.heap.size)) (W.alloc (.map #[] 0)):=fun W=>run_makeMap _ W
 obtain ⟨xb,hxb⟩:∃ x,x=w.heap.size:=⟨_,rfl⟩
 obtain ⟨m,hmm⟩:∃ x,x=w.heap.size+1:=⟨_,rfl⟩
 rw[← hxb] at hB1
 rw[← hmm] at hM2
 have HW:=hide (show W2=(w.alloc (.cells #[.slice none 0 0] 59)).alloc (.map #[] 0) by rw[hW2,hW1])
 obtain ⟨HXB,HMM,HN,HO,HD,HT⟩:=zh6 hxb hmm hn hO hd hT
 have HST:=hide (And.intro (hB1.kept g2 (by simp)) (And.intro hM2 (tn g1 g2)))
 clear hxb hmm hn hO hd hT hB1 hM2 g1 g2 hW1 hW2 hs1
 go_enter Tryz.func22,Tryz.ntmps22
 go_wp2_with (rw[← uh HW,← uh HMM,← uh HXB])
 go_loopw [12] (fun vi wr=>∃ (i:Nat) (v:Value) (K:List (List UInt8 × Value)),vi = .int .i64 i∧i≤n∧Hid (Blk wr xb 59 [v]∧wr.ownsRow w.heap.size 47 32 v i ((((L.map (·.o)).take i).map obId).flatMap (·.map bv))∧MapAt wr m K∧KIx (L.map (·.o)) i K∧w.grownBy wr none)) (fun vi _=>n - (intOf vi).toNat)
 case atStart=>exact ⟨0,.slice none 0 0,[],rfl,Nat.zero_le _,⟨(uh HST).1,World.ownsRow_nil _ _ _ _,(uh HST).2.1,KIx.nil _,(uh HST).2.2⟩⟩
 case round =>
  clear HST
  obtain ⟨i,v,K,rfl,hin,HR⟩:=hrel
  by_cases hi:i<n
  ·have hiz:(i:Int)<(n:Int):=by omega
   have hiL:i<L.length:=by rw[← uh HN];exact hi
   obtain ⟨b,o,rfl,hr0,hb0⟩:=(uh HO).at i hiL
   obtain ⟨hB,ho,hM,hK,hg⟩:=uh HR
   have hr:=zad hr0 hg (by simp)
   have hbt:=hb0.kept hg (fun _ e=>by cases e)
   obtain ⟨r,hre⟩:∃ r,r=L[i]:=⟨_,rfl⟩
   have hdr:r.d.length≤16384:=by rw[hre];exact uh HD _ (List.getElem_mem hiL)
   rw[← hre] at hr hbt
   obtain ⟨OC,hOC⟩:∃ C,C=obP r:=⟨_,rfl⟩
   rw[← hOC] at hr
   obtain ⟨W3,hW3,hBZ,hB3,g3⟩:=zfv wr OC
   have hr3:=zal hB3
   have hiO:(Tryz.prog.info? 42).map (·.size)=some OC.length:=by rw[hOC];exact zbz
   have hiO2:(Tryz.prog.info? 42).map (·.size)=some OC.toArray.size:=by rw[hOC];exact zbz
   have hoo:OC.toArray.all (·.oneCell')=true:=by rw[hOC];exact zix r
   have hzs:([Value.int .i64 0,.slice none 0 0]:List Value).toArray.size=OC.toArray.size:=by rw[hOC];rfl
   have G3:=tn hg g3
   have cp:=zg5 W3 r.k r.ao r.c r.d (hbt.kept g3 (fun _ e=>by cases e)) (by omega) ((uh HT).kept0 G3)
   rw[show Value.agg #[.int .i64 r.k,.slice r.ao r.d.length r.c] = .agg OC.toArray by rw[hOC];rfl] at cp
   have hget:(L.map (·.o))[i]'(by simpa using hiL)=r.o:=by simp[hre]
   obtain ⟨I,hI⟩:∃ I,I=obId r.o:=⟨_,rfl⟩
   have hI2:shaL (putL r.k r.d)=I:=by rw[hI];rfl
   have hIl:I.length=32:=by rw[hI];exact zbe _
   rw[hI2] at cp
   obtain ⟨KB,hKB⟩:∃ k,k=I.map bv:=⟨_,rfl⟩
   rw[← hKB] at cp
   have hKl:KB.length=32:=by rw[hKB,List.length_map,hIl]
   have hK1:∀ u∈KB,u.oneCell'=true:=by rw[hKB];exact zaw _
   have hKo:KB.toArray.all (·.oneCell')=true:=all_oneCell_toArray hK1
   have hiK:(Tryz.prog.info? 47).map (·.size)=some KB.length:=by rw[hKl];exact zax
   have hiK2:(Tryz.prog.info? 47).map (·.size)=some KB.toArray.size:=by simpa using hiK
   obtain ⟨Z,hZ,hzv⟩:=zc8
   have hZK:Z.toList.toArray.size=KB.toArray.size:=by simp[hZ,hKl]
   have hZl:Z.toList.toArray=Z:=by simp
   have hstep:((L.map (·.o)).take (i+1)).map obId=((L.map (·.o)).take i).map obId++[I]:=by
    rw[List.take_succ_eq_append_getElem (by simpa using hiL),hget,List.map_append,hI];rfl
   have hKn:KIx (L.map (·.o)) (i+1) (putK K I (.int .i64 (i:Int))):=by
    have:=hK.put (by simpa using hiL)
    rw[hget,← hI] at this
    exact this
   obtain ⟨HGT,HKN,HKB,HIL,HKL,HK1⟩:=zh6 hstep hKn hKB hIl hKl hK1
   obtain ⟨HKO,HIK,HIK2,HZK,HIO,HIO2⟩:=zh6 hKo hiK hiK2 hZK hiO hiO2
   obtain ⟨HOO,HZS,HW3,HBZ,HR3,HG3⟩:=zh6 hoo hzs hW3 hBZ hr3 g3
   have HH:=hide hr
   have hwi:IntKind.i64.wrap ((i:Int)+1)=(i:Int)+1:=by rw[IntKind.wrap_i64];omega
   have c0:=hB.cell 0
   simp only[List.getElem?_cons_zero] at c0
   clear hr hstep hKn hget hre hOC hI hI2 hKB hIl hKl hK1 hKo hiK hiK2 hZK hZ hZl hB3 hBZ hW3 hr3 hiO hiO2 hoo hzs g3 G3 hr0 hb0 hbt hB ho hM hK hg hdr
   go_upto_region 7 with (first
    | (refine wpList_load_mid rfl 42 _ rfl b (o+i*2) rfl OC _ (uh HH) Tryz.underlying42 rfl (uh HIO) ?_;clear HH)
    | (refine wpList_store_row rfl 42 _ _ rfl wr.heap.size OC.toArray rfl rfl _ _ (uh HBZ) (uh HIO2) (uh HZS) (uh HOO) ?_;rw[← uh HW3])
    | (refine wpList_load_mid rfl 42 _ rfl wr.heap.size 0 rfl OC _ (uh HR3) Tryz.underlying42 rfl (uh HIO) ?_;clear HR3)
    | (go_at_call 17;refine cp.mono ?_;rintro e w4 ⟨rfl,g4⟩;clear cp;have G4:=hide (tn (uh HG3) g4);clear g4;obtain ⟨W5,hW5,hB5,g5⟩:=zbg w4 47 Z KB;have HW5:=hide hW5;have HBN:=hide (show Blk (w4.alloc (.cells Z 47)) w4.heap.size 47 Z.toList by simpa using Blk.new w4 47 Z.toList);have G5:=hide (tn (uh G4) g5);have HB5:=hide hB5;clear hW5 hB5 g5)
    | (refine wpList_store_row rfl 47 _ _ rfl w4.heap.size KB.toArray rfl rfl _ _ (uh HBN) (uh HIK2) (uh HZK) (uh HKO) ?_;rw[← uh HW5]))
   obtain ⟨hB,ho,hM,hK,hg⟩:=uh HR
   have h5:=hide (zal (uh HB5))
   have c0:=(hB.kept (uh G5) (by simp)).cell 0
   simp only[List.getElem?_cons_zero] at c0
   obtain ⟨W6,hW6,hB6,g6⟩:=zah W5 47 KB
   have hbs:(Instr.buildSlice 59 1 #[(0,.agg KB.toArray)]).run Tryz.prog W5 = .ok (.slice (some ⟨W5.heap.size,0,none⟩) 1 1) W6:=by rw[hW6,uh HKB];exact zif _ (uh HIL) W5
   have G6:=tn (uh G5) g6
   have ho6:=za8 ho G6 (fun _ e=>by cases e)
   have hbase:w.heap.size≤W6.heap.size:=(tn hg G6).size
   have hn9:i≤100000:=by omega
   obtain ⟨HBS,HO6,HB6,HG6,HG56⟩:=zh5 hbs ho6 hB6 G6 g6
   clear hbs ho6 hB6 g6 hW6 hB ho hM hK hg G6
   go_upto_region 8 with (first
    | (refine wpList_load_mid rfl 47 _ rfl w4.heap.size 0 rfl KB _ (uh h5) Tryz.underlying47 rfl (uh HIK) ?_;(try simp only[pq]))
    | (refine zav rfl 59 _ rfl (.agg KB.toArray) _ rfl (uh HBS) ?_;(try simp only[pq]))
    | (refine zb7 rfl _ _ rfl w.heap.size v i _ rfl (uh HO6) _ KB (uh HB6) (uh HKL) (uh HK1) rfl hn9 hbase ?_;intro v7 w7 ho7 g7;obtain ⟨a7,x7,rfl⟩:=zb3 ho7;have HO7:=hide ho7;have HG7:=hide g7;have hB7:=((uh HR).1.kept (uh HG6) (by simp)).kept g7 (zan (uh HO6) ((uh HR).1.kept (uh HG6) (by simp)) (by decide));have c7:=hB7.cell 0;have f7:=hB7.fz 0;simp only[List.getElem?_cons_zero] at c7;have HB7:=hide hB7;clear ho7 g7 hB7;(try simp only[pq])))
   obtain ⟨hB,ho,hM,hK,hg⟩:=uh HR
   obtain ⟨W8,hW8⟩:∃ W8,W8=w7.setCell ⟨xb,0,none⟩ (.slice a7 (i+1) x7):=⟨_,rfl⟩
   have hB8:Blk W8 xb 59 [.slice a7 (i+1) x7]:=by rw[hW8];exact (uh HB7).set 0 _
   have hM6:=hM.none (uh HG6)
   have hM7:=hM6.kept (uh HG7) (hM6.own (uh HO6))
   have g78:w7.grownBy W8 (some xb):=by rw[hW8];exact zdj w7 xb 0 _
   have hM8:MapAt W8 m K:=hM7.kept g78 (fun e=>by injection e with e;exact hM7.blk (uh HB7) e)
   have ho8:W8.ownsRow w.heap.size 47 32 (.slice a7 (i+1) x7) (i+1) ((((L.map (·.o)).take (i+1)).map obId).flatMap (·.map bv)):=by
    have h7:=uh HO7
    rw[uh HGT,List.flatMap_append]
    simp only[List.flatMap_cons,List.flatMap_nil,List.append_nil]
    rw[← uh HKB]
    exact h7.kept g78 (Or.inr fun e=>zan h7 (uh HB7) (by decide) e.symm)
   have hG8:w.grownBy W8 none:=by
    have h6:=tn hg (uh HG6)
    have h7:w.grownBy w7 none:=zac h6 (uh HG7) (fun y e=>Or.inl ((uh HO6).lt y e).1)
    exact zac h7 g78 (fun y e=>Or.inl (by injection e with e;have:=uh HXB;omega))
   have hB7i:Blk W8 w4.heap.size 47 KB:=by
    have h6:Blk W6 w4.heap.size 47 KB:=(uh HB5).kept (uh HG56) (by simp)
    have h7:Blk w7 w4.heap.size 47 KB:=h6.kept (uh HG7) (fun e=>by
     have h1:=(ho.lt _ e.symm).2
     have h2:=(uh G4).size
     omega)
    exact h7.kept g78 (fun e=>by injection e with e;have h1:=(uh HB7);unfold Blk at h1 h7;rw[e,h1] at h7;injection h7 with h7;injection h7 with _ h7;cases h7)
   have h8:=hide (zal hB7i)
   obtain ⟨W9,hmu,hM9,g9,_⟩:=hM8.store 60 3 Tryz.underlying60 _ (uh HIL) (.int .i64 (i:Int))
   have hmu2:(Instr.mapUpdate 60 (.map (some m)) (.agg KB.toArray) (.int .i64 (i:Int))).run Tryz.prog W8 = .ok () W9:=by rw[uh HKB];exact hmu
   have hB9:Blk W9 xb 59 [.slice a7 (i+1) x7]:=hB8.kept g9 (fun e=>by injection e with e;exact hM8.blk hB8 e.symm)
   have ho9:=zmk ho8 hM8 g9
   have hG9:w.grownBy W9 none:=zac hG8 g9 (fun y e=>Or.inl (by injection e with e;have:=uh HMM;omega))
   have HFIN:=hide (And.intro hB9 (And.intro ho9 (And.intro hM9 (And.intro (uh HKN) hG9))))
   obtain ⟨HMU,HW8⟩:=zh2 hmu2 hW8
   clear hB9 ho9 hM9 hG9 hmu hmu2 g9 hB7i hG8 ho8 hM8 g78 hM7 hM6 hB8 hW8 hB ho hM hK hg
   go_wp2_with (first
    | (rw[← uh HW8])
    | (refine wpList_load_mid rfl 47 _ rfl w4.heap.size 0 rfl KB _ (uh h8) Tryz.underlying47 rfl (uh HIK) ?_)
    | (rw[uh HMU]))
   go_roundw
   case rel=>exact ⟨i+1,.slice a7 (i+1) x7,_,by go_num,by omega,uh HFIN⟩
   case measure=>simp[intOf];omega
  ·have hiz:¬ (i:Int)<(n:Int):=by omega
   obtain ⟨hB,ho,hM,hK,hg⟩:=uh HR
   have hiL:i=L.length:=by have:=uh HN;omega
   have hall:(L.map (·.o)).take i=L.map (·.o):=List.take_of_length_le (by simp;omega)
   rw[hall] at ho
   have hlen:((L.map (·.o)).map obId).length=i:=by simp[hiL]
   have ho2:wr.ownsRow w.heap.size 47 32 v ((L.map (·.o)).map obId).length (((L.map (·.o)).map obId).flatMap (·.map bv)):=by rw[hlen];exact ho
   have cs:=ziw wr w.heap.size xb v _ ho2 (fun x hx=>by obtain ⟨q,_,rfl⟩:=List.mem_map.1 hx;exact zbe q) hB (by rw[hlen];omega)
   rw[hlen] at cs
   have c0:=hB.cell 0
   simp only[List.getElem?_cons_zero] at c0
   have hKn:KIx (L.map (·.o)) n K:=by
    have e:i=n:=by omega
    rw[← e]
    exact hK
   have hin2:i=n:=by omega
   obtain ⟨HIN,HKN⟩:=zh2 hin2 hKn
   clear hB ho hM hK hg hiL hall hlen ho2 hKn hin2
   go_wp2_with (go_at_call 41;refine cs.mono ?_;rintro e w4 ⟨rfl,M,q1,q2,q3,q4⟩;clear cs;have c4:=((uh HR).1.kept q4 (zan (uh HR).2.1 (uh HR).1 (by decide))).cell 0;simp only[List.getElem?_cons_zero] at c4;have HQ:=hide (And.intro q1 (And.intro q2 (And.intro q3 q4)));clear q1 q2 q3 q4)
   go_ret2
   obtain ⟨q1,q2,q3,q4⟩:=uh HQ
   obtain ⟨hB,ho,hM,hK,hg⟩:=uh HR
   refine ⟨v,m,M,K,rfl,q1,q2,by rw[← uh HIN];exact q3,hM.kept q4 (hM.own ho),uh HKN,zac hg q4 (fun x e=>Or.inl (ho.lt x e).1)⟩
theorem zdl {α:Type} [DecidableEq α]:∀ {B:List α},¬ B.Nodup→∃ B' : List α,B'.length<B.length∧∀ x∈B,x∈B'
 | [],h=>absurd List.nodup_nil h
 | x::t,h=>by
  by_cases hx:x∈t
  ·exact ⟨t,by simp,fun y hy=>(List.mem_cons.1 hy).elim (fun e=>e ▸ hx) id⟩
  ·obtain ⟨t',h1,h2⟩:=zdl (fun ht=>h (List.nodup_cons.2 ⟨hx,ht⟩))
   exact ⟨x::t',by simp;omega,fun y hy=>by
    rcases List.mem_cons.1 hy with e | hy
    ·rw[e];simp
    ·exact List.mem_cons_of_mem _ (h2 y hy)⟩
theorem zeu {α β:Type} {f:α→β} {l:List α} (h:(l.map f).Nodup):l.Nodup:=(List.pairwise_map.1 h).imp fun hab e=>hab (congrArg f e)
theorem KIx.len {l:List Ob} {K:List (List UInt8 × Value)} (h:KIx l l.length K) (hn:(K.map (·.1)).Nodup):K.length≤l.length∧(K.length<l.length↔¬ (l.map obId).Nodup):=by
 have hk:∀ x,x∈K.map (·.1)↔x∈l.map obId:=fun x=>by have:=h.keys x;rwa [List.take_length] at this
 have h1:K.length≤l.length:=by
  have:=zey hn fun x hx=>(hk x).1 hx
  simpa using this
 refine ⟨h1,fun hl hd => ?_,fun hd => ?_⟩
 ·have:=zey hd fun x hx=>(hk x).2 hx
  simp only[List.length_map] at this
  omega
 ·obtain ⟨B',b1,b2⟩:=zdl hd
  have:=zey hn fun x hx=>b2 x ((hk x).1 hx)
  simp only[List.length_map] at this b1
  omega
theorem KIx.get {l:List Ob} {K:List (List UInt8 × Value)} (h:KIx l l.length K) {x:List UInt8} (hx:x∈l.map obId):∃ j:Nat,getK K x=some (.int .i64 (j:Int))∧∃ hj:j<l.length,obId l[j]=x:=by
 have hk:x∈K.map (·.1):=(h.keys x).2 (by rw[List.take_length];exact hx)
 obtain ⟨v,hv⟩:=Option.isSome_iff_exists.1 ((zft K x).2 hk)
 obtain ⟨j,_,h2,h3,h4⟩:=h.val _ (zob hv)
 exact ⟨j,by rw[hv];exact congrArg some h2,h3,h4⟩
theorem zeh (l:List Ob):errP l=if 256<l.length then 3 else if errC l≠0 then errC l else if (l.map obId).Nodup then 0 else 14:=by
 unfold errP errC
 by_cases h1:256<l.length
 ·rw[if_pos h1,if_pos h1]
 ·rw[if_neg h1,if_neg h1]
  cases h2:l.find? (fun o=>zar o.1 o.2 != 0) with
  | none=>simp
  | some o =>
   have:=List.find?_some h2
   simp only[bne_iff_ne,ne_eq] at this
   simp[this]
theorem zog {l s:List Ob} {M:List (List UInt8)} (hc:l.length≤256) (hok:∀ o∈l,OkO o) (hnd:(l.map obId).Nodup) (hM:M.Perm (l.map obId)) (hf:zjn M) (h1:s.map obId=M) (h2:∀ o∈s,o∈l):s.Perm l∧PackOf (zdp s) s:=by
 have hMn:M.Nodup:=hM.nodup_iff.2 hnd
 have hsn:s.Nodup:=by
  have:(s.map obId).Nodup:=by rw[h1];exact hMn
  exact zeu this
 have hln:l.Nodup:=zeu hnd
 have hp:s.Perm l:=(List.perm_ext_iff_of_nodup hsn hln).2 fun o=>⟨h2 o,fun ho=>by
  have:obId o∈s.map obId:=by rw[h1];exact hM.mem_iff.2 (List.mem_map.2 ⟨o,ho,rfl⟩)
  obtain ⟨q,hq,e⟩:=List.mem_map.1 this
  have:=zcw hnd (h2 q hq) ho e
  rw[← this]
  exact hq⟩
 refine ⟨hp,⟨by rw[hp.length_eq];exact hc,fun o ho=>hok o (h2 o ho),?_,rfl⟩⟩
 have hr:(s.map obId).Pairwise fun a b=>za5 a b=true:=by
  rw[h1]
  have hb:=List.Pairwise.and hf hMn
  refine List.Pairwise.imp (fun {a b} h => ?_) hb
  cases h3:za5 a b with
  | true=>rfl
  | false=>exact absurd (ze7 _ _ h3 h.1) h.2
 unfold RisO
 rw[List.pairwise_map] at hr
 exact hr
theorem zjp:∀ (n:Nat) (l:List UInt8),l.length=n→lb (be l) n=l:=by
 intro n
 induction n with
 | zero=>intro l h;rw[List.eq_nil_of_length_eq_zero h];simp[lb]
 | succ n ih =>
  intro l h
  obtain ⟨x,t,rfl⟩:∃ x t,l=t++[x]:=⟨l.getLast (by intro e;simp[e] at h),l.dropLast,(List.dropLast_concat_getLast _).symm⟩
  have ht:t.length=n:=by simpa using h
  have hx:=x.toNat_lt
  have hs:∀ v,lb v (n+1)=lb (v / 256) n++[UInt8.ofNat v]:=fun v=>by
   unfold lb
   rw[List.range_succ,List.map_append]
   congr 1
   ·apply List.map_congr_left
    intro i hi
    have hi:=List.mem_range.1 hi
    congr 1
    rw[show n+1 - 1 - i=(n - 1 - i)+1 from by omega,Nat.pow_succ,Nat.mul_comm,Nat.div_div_eq_div_mul]
   ·simp
  rw[hs,zgf,show (be t*256+x.toNat) / 256=be t from by omega,ih t ht]
  congr 2
  apply UInt8.toNat_inj.1
  simp
theorem zms {l m:List UInt8} {o:Ob} (h:rdO l 0=(o,m,0)):l=obB o++m:=by
 unfold rdO numS at h
 have hnb:nb 1=1:=by decide
 simp only[hnb,if_true] at h
 by_cases h1:l.length<1
 ·rw[if_pos h1] at h
  simp[zak] at h
 ·rw[if_neg h1] at h
  obtain ⟨x,t,rfl⟩:∃ x t,l=x::t:=by
   cases l with
   | nil=>simp at h1
   | cons x t=>exact ⟨x,t,rfl⟩
  simp only[List.take_succ_cons,List.take_zero,List.drop_succ_cons,List.drop_zero] at h
  unfold zak at h
  simp only[if_true] at h
  by_cases h2:t.length<4
  ·rw[if_pos h2] at h;simp at h
  ·rw[if_neg h2] at h
   by_cases h3:65536<be (t.take 4)
   ·rw[if_pos h3] at h;simp at h
   ·rw[if_neg h3] at h
    by_cases h4:t.length<4+be (t.take 4)
    ·rw[if_pos h4] at h;simp at h
    ·rw[if_neg h4] at h
     simp only[Prod.mk.injEq,and_true] at h
     obtain ⟨ho,hm⟩:=h
     obtain ⟨k,d⟩:=o
     simp only[Prod.mk.injEq] at ho
     obtain ⟨hk,hd⟩:=ho
     have hbx:be [x]=x.toNat:=by simp[be]
     rw[hbx] at hk
     subst hk
     have hdl:d.length=be (t.take 4):=by rw[← hd];simp;omega
     have hlb:lb d.length 4=t.take 4:=by rw[hdl];exact zjp 4 _ (by simp;omega)
     unfold obB putL layS
     rw[hlb]
     have hx:UInt8.ofInt ((x.toNat:Nat):Int)=x:=by
      apply UInt8.toNat_inj.1
      have:=x.toNat_lt
      simp[UInt8.ofInt]
      omega
     simp only[hx]
     rw[← hm,← hd]
     simp only[List.cons_append,List.append_assoc,List.cons.injEq,true_and,List.nil_append]
     rw[List.take_append_drop,List.take_append_drop]
theorem zoh {n:Nat} {l m:List UInt8} {s:List Ob} (h:rdOs n l 0=(s,m,0)):l=s.flatMap obB++m∧s.length=n:=by
 induction n generalizing m s with
 | zero =>
  unfold rdOs at h
  simp only[Prod.mk.injEq,and_true] at h
  obtain ⟨rfl,rfl⟩:=h
  exact ⟨by simp,rfl⟩
 | succ n ih =>
  unfold rdOs at h
  obtain ⟨s0,m0,e0⟩:∃ a b,(rdOs n l 0).1=a∧(rdOs n l 0).2.1=b:=⟨_,_,rfl,rfl⟩
  obtain ⟨e0,e1⟩:=e0
  by_cases he:(rdOs n l 0).2.2=0
  ·have h0:rdOs n l 0=(s0,m0,0):=Prod.ext e0 (Prod.ext e1 he)
   obtain ⟨i1,i2⟩:=ih h0
   rw[h0] at h
   simp only[Prod.mk.injEq] at h
   obtain ⟨h1,h2,h3⟩:=h
   obtain ⟨o,ho⟩:∃ o,o=(rdO m0 0).1:=⟨_,rfl⟩
   have hr:rdO m0 0=(o,m,0):=Prod.ext ho.symm (Prod.ext h2 h3)
   have:=zms hr
   rw[← h1,← ho]
   refine ⟨?_,by simp[i2]⟩
   rw[i1,this]
   simp
  ·exfalso
   simp only[Prod.mk.injEq] at h
   have h3:=h.2.2
   have:(rdO (rdOs n l 0).2.1 (rdOs n l 0).2.2).2.2=(rdOs n l 0).2.2:=by
    unfold rdO numS zak
    rw[if_neg he]
    simp only[if_neg he]
   rw[this] at h3
   exact he h3
def plC (x:List UInt8) (a n:Nat):List Value:=x.map bv++[.int .i64 (a:Int),.int .i64 (n:Int)]
def offO (s:List Ob) (j:Nat):Nat:=6+((s.take j).flatMap obB).length
structure KPl (s:List Ob) (K:List (List UInt8 × Value)):Prop where
 keys:∀ x,x∈K.map (·.1)↔x∈s.map obId
 get:∀ j (h:j<s.length),getK K (obId s[j])=some (.agg (plC (obId s[j]) (offO s j) (5+s[j].2.length)).toArray)
theorem KPl.nil:KPl [] []:=⟨by simp,fun j h=>by simp at h⟩
theorem KPl.put {s:List Ob} {K:List (List UInt8 × Value)} (h:KPl s K) {o:Ob} (hn:obId o∉s.map obId):KPl (s++[o]) (putK K (obId o) (.agg (plC (obId o) (6+(s.flatMap obB).length) (5+o.2.length)).toArray)):=by
 have hk:obId o∉K.map (·.1):=fun hh=>hn ((h.keys _).1 hh)
 have e:putK K (obId o) (.agg (plC (obId o) (6+(s.flatMap obB).length) (5+o.2.length)).toArray)=K++[(obId o,.agg (plC (obId o) (6+(s.flatMap obB).length) (5+o.2.length)).toArray)]:=by unfold putK;rw[if_neg hk]
 rw[e]
 refine ⟨fun x => ?_,fun j hj => ?_⟩
 ·rw[List.map_append,List.mem_append,List.map_append,List.mem_append,h.keys]
  simp
 ·have hl:j<s.length∨j=s.length:=by simp at hj;omega
  rcases hl with hl | rfl
  ·have e1:(s++[o])[j]=s[j]:=List.getElem_append_left hl
   have e2:offO (s++[o]) j=offO s j:=by unfold offO;rw[List.take_append_of_le_length (by omega)]
   rw[e1,e2]
   have:=h.get j hl
   unfold getK at this ⊢
   rw[List.find?_append]
   cases hf:K.find? (fun p=>p.1 == obId s[j]) with
   | none=>rw[hf] at this;cases this
   | some p=>rw[hf] at this;simpa using this
  ·have e1:(s++[o])[s.length]=o:=by simp
   have e2:offO (s++[o]) s.length=6+(s.flatMap obB).length:=by unfold offO;simp
   rw[e1,e2]
   unfold getK
   have hf:K.find? (fun p=>p.1 == obId o)=none:=List.find?_eq_none.2 fun p hp=>by
    have:p.1≠obId o:=fun e=>hk (List.mem_map.2 ⟨p,hp,e⟩)
    simpa using this
   rw[List.find?_append,hf]
   simp
theorem zmt {b:List UInt8} {t:List Ob} (h:PackOf b t) {i:Nat} {s:List Ob} {m:List UInt8} (hr:rdOs i (t.flatMap obB) 0=(s,m,0)) (hi:i<t.length) :
  ∃ o m',rdO m 0=(o,m',0)∧OkO o∧∀ x,s.getLast? = some x→za5 (obId x) (obId o)=true:=by
 have h1:=zjg t i [] h.ok (by omega)
 rw[List.append_nil,hr] at h1
 simp only[Prod.mk.injEq,and_true,List.append_nil] at h1
 obtain ⟨rfl,rfl⟩:=h1
 rw[List.drop_eq_getElem_cons hi,List.flatMap_cons]
 refine ⟨t[i],(t.drop (i+1)).flatMap obB,zio (h.ok _ (List.getElem_mem hi)) _,h.ok _ (List.getElem_mem hi),fun x hx => ?_⟩
 have hi0:0<i:=by
  rcases Nat.eq_zero_or_pos i with rfl | h0
  ·simp at hx
  ·exact h0
 rw[List.getLast?_eq_getElem?] at hx
 have hl:(t.take i).length=i:=by simp;omega
 rw[hl,List.getElem?_take_of_lt (by omega),List.getElem?_eq_getElem (by omega)] at hx
 injection hx with hx
 rw[← hx]
 exact List.pairwise_iff_getElem.1 h.ris (i - 1) i (by omega) hi (by omega)
end Go.Proofs.YtegbbkgmiklhcaaGreatDoor
