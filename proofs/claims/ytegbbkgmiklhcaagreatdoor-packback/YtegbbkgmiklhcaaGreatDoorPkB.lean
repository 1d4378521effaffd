/- Lemmas. -/
import Derived.Test.YtegbbkgmiklhcaaGreatDoorPkLa
import Derived.Test.YtegbbkgmiklhcaaGreatDoorREq
import Derived.Test.YtegbbkgmiklhcaaGreatDoorSoSl
namespace Go.Proofs.YtegbbkgmiklhcaaGreatDoor
open Go.RowKit
theorem zbx (o:Ob):(obId o).length=32:=zcw _
structure KIx (l:List Ob) (i:Nat) (K:List (List UInt8 × Value)):Prop where
 keys:∀ x,x∈K.map (·.1)↔x∈(l.take i).map obId
 val:∀ p∈K,∃ j,j<i∧p.2 = .int .i64 (j:Int)∧∃ h:j<l.length,obId l[j]=p.1
theorem KIx.nil (l:List Ob):KIx l 0 []:=⟨by simp,by simp⟩
theorem KIx.put {l:List Ob} {i:Nat} {K:List (List UInt8 × Value)} (h:KIx l i K) (hi:i<l.length):KIx l (i+1) (putK K (obId l[i]) (.int .i64 (i:Int))):=by
 refine ⟨fun x => ?_,fun p hp => ?_⟩
 ·rw[List.take_succ_eq_append_getElem hi,List.map_append,List.mem_append]
  constructor
  ·intro hx
   obtain ⟨p,hp,rfl⟩:=List.mem_map.1 hx
   rcases (zep _ _ _).1 hp with rfl | ⟨hp,_⟩
   ·exact Or.inr (by simp)
   ·exact Or.inl ((h.keys _).1 (List.mem_map.2 ⟨p,hp,rfl⟩))
  ·intro hx
   by_cases e:x=obId l[i]
   ·subst e
    exact List.mem_map.2 ⟨_,(zep _ _ _).2 (Or.inl rfl),rfl⟩
   ·rcases hx with hx | hx
    ·obtain ⟨p,hp,rfl⟩:=List.mem_map.1 ((h.keys _).2 hx)
     exact List.mem_map.2 ⟨p,(zep _ _ _).2 (Or.inr ⟨hp,e⟩),rfl⟩
    ·exact absurd (by simpa using hx) e
 ·rcases (zep _ _ _).1 hp with rfl | ⟨hp,_⟩
  ·exact ⟨i,by omega,rfl,hi,rfl⟩
  ·obtain ⟨j,h1,h2,h3⟩:=h.val p hp
   exact ⟨j,by omega,h2,h3⟩
set_option maxRecDepth 100000 in
set_option maxHeartbeats 4000000 in
theorem zmi (w:World) (ao:Option Addr) (c:Nat) (L:List ObP) (hO:Obsl w ao c L) (hm:L.length≤300) (hd:∀ r∈L,r.d.length≤16384) (hT:Tabs w) :
  Calls Tryz.prog 22 #[.slice ao L.length c] w fun e w'=>∃ v m M K,e = .returned (.tuple #[v,.map (some m)])∧M.Perm ((L.map (·.o)).map obId)∧zi9 M∧w'.ownsRow w.heap.size 47 32 v L.length (M.flatMap (·.map bv))∧MapAt w' m K∧KIx (L.map (·.o)) L.length K∧w.grownBy w' none:=by
 obtain ⟨n,hn⟩:∃ n,n=L.length:=⟨_,rfl⟩
 rw[← hn] at hm ⊢
 obtain ⟨W1,hW1,hB1,g1⟩:∃ W1,W1=w.alloc (.cells #[.slice none 0 0] 59)∧Blk W1 w.heap.size 59 [.slice none 0 0]∧w.grownBy W1 none:=zah w _ _
 obtain ⟨W2,hW2⟩:∃ W2,W2=W1.alloc (.map #[] 0):=⟨_,rfl⟩
 have g2:W1.grownBy W2 none:=by rw[hW2];exact zai (zaa _ _) _
 have hs1:W1.heap.size=w.heap.size+1:=by rw[hW1];simp
 have hM2:MapAt W2 (w.heap.size+1) []:=by rw[hW2,← hs1];exact MapAt.new W1
 have hmk:∀ W:World,(Instr.makeMap 60 none).run Tryz.prog W = .ok (.map (some W.heap.size)) (W.alloc (.map #[] 0)):=fun W=>run_makeMap _ W
 obtain ⟨xb,hxb⟩:∃ x,x=w.heap.size:=⟨_,rfl⟩
 obtain ⟨m,hmm⟩:∃ x,x=w.heap.size+1:=⟨_,rfl⟩
 rw[← hxb] at hB1
 rw[← hmm] at hM2
 have HW:=hide (show W2=(w.alloc (.cells #[.slice none 0 0] 59)).alloc (.map #[] 0) by rw[hW2,hW1])
 obtain ⟨HXB,HMM,HN,HO,HD,HT⟩:=zh6 hxb hmm hn hO hd hT
 have HST:=hide (And.intro (hB1.kept g2 (by simp)) (And.intro hM2 (tn g1 g2)))
 clear hxb hmm hn hO hd hT hB1 hM2 g1 g2 hW1 hW2 hs1
 go_enter Tryz.func22,Tryz.ntmps22
 go_wp2_with (rw[← uh HW,← uh HMM,← uh HXB])
 go_loopw [12] (fun vi wr=>∃ (i:Nat) (v:Value) (K:List (List UInt8 × Value)),vi = .int .i64 i∧i≤n∧Hid (Blk wr xb 59 [v]∧wr.ownsRow w.heap.size 47 32 v i ((((L.map (·.o)).take i).map obId).flatMap (·.map bv))∧MapAt wr m K∧KIx (L.map (·.o)) i K∧w.grownBy wr none)) (fun vi _=>n - (intOf vi).toNat)
 case atStart=>exact ⟨0,.slice none 0 0,[],rfl,Nat.zero_le _,⟨(uh HST).1,World.ownsRow_nil _ _ _ _,(uh HST).2.1,KIx.nil _,(uh HST).2.2⟩⟩
 case round =>
  clear HST
  obtain ⟨i,v,K,rfl,hin,HR⟩:=hrel
  by_cases hi:i<n
  ·have hiz:(i:Int)<(n:Int):=by omega
   have hiL:i<L.length:=by rw[← uh HN];exact hi
   obtain ⟨b,o,rfl,hr0,hb0⟩:=(uh HO).at i hiL
   obtain ⟨hB,ho,hM,hK,hg⟩:=uh HR
   have hr:=zac hr0 hg (by simp)
   have hbt:=hb0.kept hg (fun _ e=>by cases e)
   obtain ⟨r,hre⟩:∃ r,r=L[i]:=⟨_,rfl⟩
   have hdr:r.d.length≤16384:=by rw[hre];exact uh HD _ (List.getElem_mem hiL)
   rw[← hre] at hr hbt
   obtain ⟨OC,hOC⟩:∃ C,C=obP r:=⟨_,rfl⟩
   rw[← hOC] at hr
   obtain ⟨W3,hW3,hBZ,hB3,g3⟩:=zf4 wr OC
   have hr3:=zal hB3
   have hiO:(Tryz.prog.info? 42).map (·.size)=some OC.length:=by rw[hOC];exact zbs
   have hiO2:(Tryz.prog.info? 42).map (·.size)=some OC.toArray.size:=by rw[hOC];exact zbs
   have hoo:OC.toArray.all (·.oneCell')=true:=by rw[hOC];exact zih r
   have hzs:([Value.int .i64 0,.slice none 0 0]:List Value).toArray.size=OC.toArray.size:=by rw[hOC];rfl
   have G3:=tn hg g3
   have cp:=zil W3 r.k r.ao r.c r.d (hbt.kept g3 (fun _ e=>by cases e)) (by omega) ((uh HT).kept0 G3)
   rw[show Value.agg #[.int .i64 r.k,.slice r.ao r.d.length r.c] = .agg OC.toArray by rw[hOC];rfl] at cp
   have hget:(L.map (·.o))[i]'(by simpa using hiL)=r.o:=by simp[hre]
   obtain ⟨I,hI⟩:∃ I,I=obId r.o:=⟨_,rfl⟩
   have hI2:shaL (putL r.k r.d)=I:=by rw[hI];rfl
   have hIl:I.length=32:=by rw[hI];exact zbx _
   rw[hI2] at cp
   obtain ⟨KB,hKB⟩:∃ k,k=I.map bv:=⟨_,rfl⟩
   rw[← hKB] at cp
   have hKl:KB.length=32:=by rw[hKB,List.length_map,hIl]
   have hK1:∀ u∈KB,u.oneCell'=true:=by rw[hKB];exact zax _
   have hKo:KB.toArray.all (·.oneCell')=true:=all_oneCell_toArray hK1
   have hiK:(Tryz.prog.info? 47).map (·.size)=some KB.length:=by rw[hKl];exact zav
   have hiK2:(Tryz.prog.info? 47).map (·.size)=some KB.toArray.size:=by simpa using hiK
   obtain ⟨Z,hZ,hzv⟩:=zdm
   have hZK:Z.toList.toArray.size=KB.toArray.size:=by simp[hZ,hKl]
   have hZl:Z.toList.toArray=Z:=by simp
   have hstep:((L.map (·.o)).take (i+1)).map obId=((L.map (·.o)).take i).map obId++[I]:=by
    rw[List.take_succ_eq_append_getElem (by simpa using hiL),hget,List.map_append,hI];rfl
   have hKn:KIx (L.map (·.o)) (i+1) (putK K I (.int .i64 (i:Int))):=by
    have:=hK.put (by simpa using hiL)
    rw[hget,← hI] at this
    exact this
   obtain ⟨HGT,HKN,HKB,HIL,HKL,HK1⟩:=zh6 hstep hKn hKB hIl hKl hK1
   obtain ⟨HKO,HIK,HIK2,HZK,HIO,HIO2⟩:=zh6 hKo hiK hiK2 hZK hiO hiO2
   obtain ⟨HOO,HZS,HW3,HBZ,HR3,HG3⟩:=zh6 hoo hzs hW3 hBZ hr3 g3
   have HH:=hide hr
   have hwi:IntKind.i64.wrap ((i:Int)+1)=(i:Int)+1:=by rw[IntKind.wrap_i64];omega
   have c0:=hB.cell 0
   simp only[List.getElem?_cons_zero] at c0
   clear hr hstep hKn hget hre hOC hI hI2 hKB hIl hKl hK1 hKo hiK hiK2 hZK hZ hZl hB3 hBZ hW3 hr3 hiO hiO2 hoo hzs g3 G3 hr0 hb0 hbt hB ho hM hK hg hdr
   go_upto_region 7 with (first
    | (refine wpList_load_mid rfl 42 _ rfl b (o+i*2) rfl OC _ (uh HH) Tryz.underlying42 rfl (uh HIO) ?_;clear HH)
    | (refine wpList_store_row rfl 42 _ _ rfl wr.heap.size OC.toArray rfl rfl _ _ (uh HBZ) (uh HIO2) (uh HZS) (uh HOO) ?_;rw[← uh HW3])
    | (refine wpList_load_mid rfl 42 _ rfl wr.heap.size 0 rfl OC _ (uh HR3) Tryz.underlying42 rfl (uh HIO) ?_;clear HR3)
    | (go_at_call 17;refine cp.mono ?_;rintro e w4 ⟨rfl,g4⟩;clear cp;have G4:=hide (tn (uh HG3) g4);clear g4;obtain ⟨W5,hW5,hB5,g5⟩:=zbl w4 47 Z KB;have HW5:=hide hW5;have HBN:=hide (show Blk (w4.alloc (.cells Z 47)) w4.heap.size 47 Z.toList by simpa using Blk.new w4 47 Z.toList);have G5:=hide (tn (uh G4) g5);have HB5:=hide hB5;clear hW5 hB5 g5)
    | (refine wpList_store_row rfl 47 _ _ rfl w4.heap.size KB.toArray rfl rfl _ _ (uh HBN) (uh HIK2) (uh HZK) (uh HKO) ?_;rw[← uh HW5]))
   obtain ⟨hB,ho,hM,hK,hg⟩:=uh HR
   have h5:=hide (zal (uh HB5))
   have c0:=(hB.kept (uh G5) (by simp)).cell 0
   simp only[List.getElem?_cons_zero] at c0
   obtain ⟨W6,hW6,hB6,g6⟩:=zah W5 47 KB
   have hbs:(Instr.buildSlice 59 1 #[(0,.agg KB.toArray)]).run Tryz.prog W5 = .ok (.slice (some ⟨W5.heap.size,0,none⟩) 1 1) W6:=by rw[hW6,uh HKB];exact zhv _ (uh HIL) W5
   have G6:=tn (uh G5) g6
   have ho6:=za7 ho G6 (fun _ e=>by cases e)
   have hbase:w.heap.size≤W6.heap.size:=(tn hg G6).size
   have hn9:i≤100000:=by omega
   obtain ⟨HBS,HO6,HB6,HG6,HG56⟩:=zh5 hbs ho6 hB6 G6 g6
   clear hbs ho6 hB6 g6 hW6 hB ho hM hK hg G6
   go_upto_region 8 with (first
    | (refine wpList_load_mid rfl 47 _ rfl w4.heap.size 0 rfl KB _ (uh h5) Tryz.underlying47 rfl (uh HIK) ?_;(try simp only[pq]))
    | (refine zau rfl 59 _ rfl (.agg KB.toArray) _ rfl (uh HBS) ?_;(try simp only[pq]))
    | (refine zb4 rfl _ _ rfl w.heap.size v i _ rfl (uh HO6) _ KB (uh HB6) (uh HKL) (uh HK1) rfl hn9 hbase ?_;intro v7 w7 ho7 g7;obtain ⟨a7,x7,rfl⟩:=zb0 ho7;have HO7:=hide ho7;have HG7:=hide g7;have hB7:=((uh HR).1.kept (uh HG6) (by simp)).kept g7 (zam (uh HO6) ((uh HR).1.kept (uh HG6) (by simp)) (by decide));have c7:=hB7.cell 0;have f7:=hB7.fz 0;simp only[List.getElem?_cons_zero] at c7;have HB7:=hide hB7;clear ho7 g7 hB7;(try simp only[pq])))
   obtain ⟨hB,ho,hM,hK,hg⟩:=uh HR
   obtain ⟨W8,hW8⟩:∃ W8,W8=w7.setCell ⟨xb,0,none⟩ (.slice a7 (i+1) x7):=⟨_,rfl⟩
   have hB8:Blk W8 xb 59 [.slice a7 (i+1) x7]:=by rw[hW8];exact (uh HB7).set 0 _
   have hM6:=hM.none (uh HG6)
   have hM7:=hM6.kept (uh HG7) (hM6.own (uh HO6))
   have g78:w7.grownBy W8 (some xb):=by rw[hW8];exact zdh w7 xb 0 _
   have hM8:MapAt W8 m K:=hM7.kept g78 (fun e=>by injection e with e;exact hM7.blk (uh HB7) e)
   have ho8:W8.ownsRow w.heap.size 47 32 (.slice a7 (i+1) x7) (i+1) ((((L.map (·.o)).take (i+1)).map obId).flatMap (·.map bv)):=by
    have h7:=uh HO7
    rw[uh HGT,List.flatMap_append]
    simp only[List.flatMap_cons,List.flatMap_nil,List.append_nil]
    rw[← uh HKB]
    exact h7.kept g78 (Or.inr fun e=>zam h7 (uh HB7) (by decide) e.symm)
   have hG8:w.grownBy W8 none:=by
    have h6:=tn hg (uh HG6)
    have h7:w.grownBy w7 none:=zab h6 (uh HG7) (fun y e=>Or.inl ((uh HO6).lt y e).1)
    exact zab h7 g78 (fun y e=>Or.inl (by injection e with e;have:=uh HXB;omega))
   have hB7i:Blk W8 w4.heap.size 47 KB:=by
    have h6:Blk W6 w4.heap.size 47 KB:=(uh HB5).kept (uh HG56) (by simp)
    have h7:Blk w7 w4.heap.size 47 KB:=h6.kept (uh HG7) (fun e=>by
     have h1:=(ho.lt _ e.symm).2
     have h2:=(uh G4).size
     omega)
    exact h7.kept g78 (fun e=>by injection e with e;have h1:=(uh HB7);unfold Blk at h1 h7;rw[e,h1] at h7;injection h7 with h7;injection h7 with _ h7;cases h7)
   have h8:=hide (zal hB7i)
   obtain ⟨W9,hmu,hM9,g9,_⟩:=hM8.store 60 3 Tryz.underlying60 _ (uh HIL) (.int .i64 (i:Int))
   have hmu2:(Instr.mapUpdate 60 (.map (some m)) (.agg KB.toArray) (.int .i64 (i:Int))).run Tryz.prog W8 = .ok () W9:=by rw[uh HKB];exact hmu
   have hB9:Blk W9 xb 59 [.slice a7 (i+1) x7]:=hB8.kept g9 (fun e=>by injection e with e;exact hM8.blk hB8 e.symm)
   have ho9:=zl5 ho8 hM8 g9
   have hG9:w.grownBy W9 none:=zab hG8 g9 (fun y e=>Or.inl (by injection e with e;have:=uh HMM;omega))
   have HFIN:=hide (And.intro hB9 (And.intro ho9 (And.intro hM9 (And.intro (uh HKN) hG9))))
   obtain ⟨HMU,HW8⟩:=zh2 hmu2 hW8
   clear hB9 ho9 hM9 hG9 hmu hmu2 g9 hB7i hG8 ho8 hM8 g78 hM7 hM6 hB8 hW8 hB ho hM hK hg
   go_wp2_with (first
    | (rw[← uh HW8])
    | (refine wpList_load_mid rfl 47 _ rfl w4.heap.size 0 rfl KB _ (uh h8) Tryz.underlying47 rfl (uh HIK) ?_)
    | (rw[uh HMU]))
   go_roundw
   case rel=>exact ⟨i+1,.slice a7 (i+1) x7,_,by go_num,by omega,uh HFIN⟩
   case measure=>simp[intOf];omega
  ·have hiz:¬ (i:Int)<(n:Int):=by omega
   obtain ⟨hB,ho,hM,hK,hg⟩:=uh HR
   have hiL:i=L.length:=by have:=uh HN;omega
   have hall:(L.map (·.o)).take i=L.map (·.o):=List.take_of_length_le (by simp;omega)
   rw[hall] at ho
   have hlen:((L.map (·.o)).map obId).length=i:=by simp[hiL]
   have ho2:wr.ownsRow w.heap.size 47 32 v ((L.map (·.o)).map obId).length (((L.map (·.o)).map obId).flatMap (·.map bv)):=by rw[hlen];exact ho
   have cs:=zig wr w.heap.size xb v _ ho2 (fun x hx=>by obtain ⟨q,_,rfl⟩:=List.mem_map.1 hx;exact zbx q) hB (by rw[hlen];omega)
   rw[hlen] at cs
   have c0:=hB.cell 0
   simp only[List.getElem?_cons_zero] at c0
   have hKn:KIx (L.map (·.o)) n K:=by
    have e:i=n:=by omega
    rw[← e]
    exact hK
   have hin2:i=n:=by omega
   obtain ⟨HIN,HKN⟩:=zh2 hin2 hKn
   clear hB ho hM hK hg hiL hall hlen ho2 hKn hin2
   go_wp2_with (go_at_call 41;refine cs.mono ?_;rintro e w4 ⟨rfl,M,q1,q2,q3,q4⟩;clear cs;have c4:=((uh HR).1.kept q4 (zam (uh HR).2.1 (uh HR).1 (by decide))).cell 0;simp only[List.getElem?_cons_zero] at c4;have HQ:=hide (And.intro q1 (And.intro q2 (And.intro q3 q4)));clear q1 q2 q3 q4)
   go_ret2
   obtain ⟨q1,q2,q3,q4⟩:=uh HQ
   obtain ⟨hB,ho,hM,hK,hg⟩:=uh HR
   refine ⟨v,m,M,K,rfl,q1,q2,by rw[← uh HIN];exact q3,hM.kept q4 (hM.own ho),uh HKN,zab hg q4 (fun x e=>Or.inl (ho.lt x e).1)⟩
end Go.Proofs.YtegbbkgmiklhcaaGreatDoor
