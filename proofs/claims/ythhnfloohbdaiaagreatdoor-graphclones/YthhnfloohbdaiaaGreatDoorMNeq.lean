/- Lemmas. -/
import Derived.Test.YthhnfloohbdaiaaGreatDoorOEq
import Derived.Laws.AppendOwnNone
namespace Go.Proofs.YthhnfloohbdaiaaGreatDoor
open Go.RowKit
set_option maxRecDepth 100000
set_option maxHeartbeats 2000000 in
theorem zda (w:World) (k:Int) (ao:Option Addr) (c:Nat) (d:List UInt8) (hb:Bts w ao c d) (hd:d.length≤100000) :
  Calls Tryz.prog 31 #[.agg #[.int .i64 k,.slice ao d.length c]] w fun e w'=>∃ po pc y,e = .returned (.tuple #[.agg (chC (telC k d).2 po pc).toArray,.int .i64 y])∧y=(telC k d).1∧w'.ownsRow w.heap.size 33 32 (.slice po (telC k d).2.pars.length pc) (telC k d).2.pars.length ((telC k d).2.pars.flatMap (·.map bv))∧w.grownBy w' none:=by
 obtain ⟨n,hn⟩:∃ n,n=d.length:=⟨_,rfl⟩
 obtain ⟨Z,hZ⟩:∃ Z:List Value,Z=chC ze1 none 0:=⟨_,rfl⟩
 have hzv:∀ w,(zeroValue 70).run Tryz.prog w = .ok (.agg Z.toArray) w:=fun w=>by rw[hZ];kernel_rfl
 have hzb:Tryz.prog.built 70 []=some Z.toArray:=by rw[hZ];kernel_rfl
 have hZl:Z.length=36:=by rw[hZ];rfl
 have hZo:Z.toArray.all (·.oneCell')=true:=by rw[hZ];exact all_oneCell_toArray (zej _ _ _)
 obtain ⟨W0,hW0,hB0,g0⟩:∃ W1,W1=w.alloc (.cells #[.int .i64 k,.slice ao n c] 42)∧Blk W1 w.heap.size 42 [.int .i64 k,.slice ao n c]∧w.grownBy W1 none:=zaf w _ _
 obtain ⟨Wr,hWr,hBr,gr⟩:∃ W1,W1=W0.alloc (.cells Z.toArray 70)∧Blk W1 W0.heap.size 70 Z∧W0.grownBy W1 none:=zaf W0 _ _
 obtain ⟨W1,hW1,hB1,g1⟩:∃ W1,W1=Wr.alloc (.cells Z.toArray 70)∧Blk W1 Wr.heap.size 70 Z∧Wr.grownBy W1 none:=zaf Wr _ _
 have hs0:W0.heap.size=w.heap.size+1:=by rw[hW0];simp
 have hsr:Wr.heap.size=w.heap.size+2:=by rw[hWr,hW0];simp
 rw[hs0] at hBr
 rw[hsr] at hB1
 have hBo:=(hB0.kept gr (by simp)).kept g1 (by simp)
 have hBr1:=hBr.kept g1 (by simp)
 have c0:=hBo.cell 0
 have c1:=hBo.cell 1
 simp only[List.getElem?_cons_zero,List.getElem?_cons_succ] at c0 c1
 have G1:=tn (tn g0 gr) g1
 have hs1:W1.heap.size=w.heap.size+3:=by rw[hW1,hWr,hW0];simp
 have hW:W1=((w.alloc (.cells #[.int .i64 k,.slice ao n c] 42)).alloc (.cells Z.toArray 70)).alloc (.cells Z.toArray 70):=by rw[hW1,hWr,hW0]
 have HW:=hide hW
 have hiZ:(Tryz.prog.info? 70).map (·.size)=some Z.toArray.size:=by rw[show Z.toArray.size=36 by simpa using hZl];exact zbu
 obtain ⟨HIZ,HZB,HZO,HBR,HZ,HZL⟩:=zh6 hiZ hzb hZo hBr1 hZ hZl
 have HG1:=hide G1
 clear hiZ hzb hZo
 by_cases hk:k=3
 ·subst hk
  have cf:=zuw w W1 G1 ao c d hb (by omega) (w.heap.size+2) 3 (zcf (zbf d)) (fun V=>zr8 w (w.heap.size+2) (zbf d) V∧Blk V (w.heap.size+1) 70 Z) (fun a b h g=>⟨h.1.none g,h.2.kept g (by simp)⟩)
   (fun V rb bc gu gw hrb hRd hbk=>(zut w V rb (w.heap.size+2) d (by omega) _ hZl gu (by omega) (by omega) (by omega) hRd (hB1.kept gw (by simp)) W1.heap.size bc hbk (by omega) (by omega) (w.heap.size+1) _ Z (hBr1.kept gw (by simp)) (by omega) (by omega)))
  rw[← hn] at cf
  rw[← hn]
  have hT:telC 3 d=(if zcf (zbf d)=(0,d) then (0,zbf d) else (11,ze1)):=by simp[telC]
  obtain ⟨t,ht⟩:∃ t,t=telC 3 d:=⟨_,rfl⟩
  rw[← ht] at hT ⊢
  obtain ⟨y,hy⟩:∃ y:Int,y=(if zcf (zbf d)=(0,d) then 0 else 11):=⟨_,rfl⟩
  rw[← hy] at cf
  have hyc:(y=0∧t=(0,zbf d))∨(y=11∧t=(11,ze1)):=by
   by_cases hq:zcf (zbf d)=(0,d)
   ·left;rw[hT,hy,if_pos hq,if_pos hq];exact ⟨rfl,rfl⟩
   ·right;rw[hT,hy,if_neg hq,if_neg hq];exact ⟨rfl,rfl⟩
  have hok:=zde d
  clear hW1 hW0 hW hB0 hB1 hBo g0 g1 hT hy hn ht hs0 hs1 hb hd hWr hBr hBr1 gr hsr hZ hZl G1
  rcases hyc with ⟨rfl,ht⟩ | ⟨rfl,ht⟩
  ·have HT:=hide ht
   clear ht
   go_enter Tryz.func31,Tryz.ntmps31
   go_wp2_with (rw[← uh HW])
   refine cf.mono ?_
   rintro e w2 ⟨rfl,⟨⟨po,pc,hB2,ho2⟩,hB3⟩,g2⟩
   obtain ⟨C,hC⟩:∃ C,C=chC (zbf d) po pc:=⟨_,rfl⟩
   rw[← hC] at hB2
   have hCl:C.length=36:=by rw[hC];exact zd3 _ _ _ hok.1
   have hCo:C.toArray.all (·.oneCell')=true:=by rw[hC];exact all_oneCell_toArray (zej _ _ _)
   have hr2:=zak hB2
   have hiC:(Tryz.prog.info? 70).map (·.size)=some C.length:=by rw[hCl];exact zbu
   have hiC2:(Tryz.prog.info? 70).map (·.size)=some C.toArray.size:=by simpa using hiC
   have hZC:Z.toArray.size=C.toArray.size:=by have:=uh HZL;simp[this,hCl]
   obtain ⟨HIC,HIC2,HZC,HCO,HC,HB2⟩:=zh6 hiC hiC2 hZC hCo hC hB2
   clear cf c0 c1 hiC hiC2 hZC hCo hC hCl hB2 hok
   go_wp2_with (first
    | (refine wpList_load_mid rfl 70 _ rfl (w.heap.size+2) 0 rfl C _ hr2 Tryz.underlying70 rfl (uh HIC) ?_;clear hr2)
    | (refine wpList_store_row rfl 70 _ _ rfl (w.heap.size+1) C.toArray rfl rfl _ _ hB3 (uh HIC2) (uh HZC) (uh HCO) ?_))
   refine bodyPost_ret (zah rfl _ _ _ _ _ _ _ rfl (hB3.row C) Tryz.underlying70 rfl (uh HIC2)) rfl ?_
   have gF:=zan g2 C.toArray (Or.inl (Nat.le_succ w.heap.size))
   rw[uh HT]
   rw[uh HC] at gF ⊢
   exact ⟨po,pc,0,rfl,rfl,zbr ho2 hB3 (by decide) _,gF⟩
  ·have HT:=hide ht
   clear ht
   go_enter Tryz.func31,Tryz.ntmps31
   go_wp2_with (rw[← uh HW])
   refine cf.mono ?_
   rintro e w2 ⟨rfl,⟨hkp,hB3⟩,g2⟩
   clear cf hkp c0 c1 hok
   go_wp2_with (first
    | (refine zaw rfl 70 _ rfl Z.toArray ?hbs ?_)
    | (refine wpList_store_row rfl 70 _ _ rfl (w.heap.size+1) Z.toArray rfl rfl _ _ hB3 (uh HIZ) rfl (uh HZO) ?_))
   case hbs=>simpa using uh HZB
   refine bodyPost_ret (zah rfl _ _ _ _ _ _ _ rfl (hB3.row Z) Tryz.underlying70 rfl (uh HIZ)) rfl ?_
   have gF:=zan g2 Z.toArray (Or.inl (Nat.le_succ w.heap.size))
   rw[uh HT]
   rw[uh HZ] at gF ⊢
   exact ⟨none,0,_,rfl,rfl,World.ownsRow_nil _ _ _ _,gF⟩
 ·have cf:=ziq W1 k 3 (by simpa using hk) ao n c (.func (.func 61) #[] #[.pointer (some ⟨w.heap.size+2,0,none⟩)])
  rw[← hn]
  have ht:telC k d=(2,ze1):=by simp[telC,hk]
  have HT:=hide ht
  clear hW1 hW0 hW hB0 hB1 hBo g0 g1 hn ht hs0 hs1 hb hd hWr hBr hBr1 gr hsr hZ hZl G1
  go_enter Tryz.func31,Tryz.ntmps31
  go_wp2_with (rw[← uh HW])
  refine cf.mono ?_
  rintro e w2 ⟨rfl,g2a⟩
  have g2:=tn (uh HG1) g2a
  have hB3:=(uh HBR).kept g2a (by simp)
  clear cf c0 c1
  go_wp2_with (first
   | (refine zaw rfl 70 _ rfl Z.toArray ?hbs ?_)
   | (refine wpList_store_row rfl 70 _ _ rfl (w.heap.size+1) Z.toArray rfl rfl _ _ hB3 (uh HIZ) rfl (uh HZO) ?_))
  case hbs=>simpa using uh HZB
  refine bodyPost_ret (zah rfl _ _ _ _ _ _ _ rfl (hB3.row Z) Tryz.underlying70 rfl (uh HIZ)) rfl ?_
  have gF:=zan g2 Z.toArray (Or.inl (Nat.le_succ w.heap.size))
  rw[uh HT]
  rw[uh HZ] at gF ⊢
  exact ⟨none,0,_,rfl,rfl,World.ownsRow_nil _ _ _ _,gF⟩
set_option maxHeartbeats 2000000 in
theorem zpx (w:World) (k:Int) (ao:Option Addr) (c:Nat) (d:List UInt8) (hb:Bts w ao c d) (hd:d.length≤100000) :
  Calls Tryz.prog 121 #[.agg #[.int .i64 k,.slice ao d.length c]] w fun e w'=>∃ y,e = .returned (.tuple #[.agg (mkC (telM k d).2).toArray,.int .i64 y])∧y=(telM k d).1∧w.grownBy w' none:=by
 obtain ⟨n,hn⟩:∃ n,n=d.length:=⟨_,rfl⟩
 obtain ⟨Z,hZ⟩:∃ Z:List Value,Z=mkC zhi:=⟨_,rfl⟩
 have hzv:∀ w,(zeroValue 126).run Tryz.prog w = .ok (.agg Z.toArray) w:=fun w=>by rw[hZ];kernel_rfl
 have hzb:Tryz.prog.built 126 []=some Z.toArray:=by rw[hZ];kernel_rfl
 have hZl:Z.length=34:=by rw[hZ];rfl
 have hZo:Z.toArray.all (·.oneCell')=true:=by rw[hZ];exact all_oneCell_toArray (zh8 _)
 obtain ⟨W0,hW0,hB0,g0⟩:∃ W1,W1=w.alloc (.cells #[.int .i64 k,.slice ao n c] 42)∧Blk W1 w.heap.size 42 [.int .i64 k,.slice ao n c]∧w.grownBy W1 none:=zaf w _ _
 obtain ⟨Wr,hWr,hBr,gr⟩:∃ W1,W1=W0.alloc (.cells Z.toArray 126)∧Blk W1 W0.heap.size 126 Z∧W0.grownBy W1 none:=zaf W0 _ _
 obtain ⟨W1,hW1,hB1,g1⟩:∃ W1,W1=Wr.alloc (.cells Z.toArray 126)∧Blk W1 Wr.heap.size 126 Z∧Wr.grownBy W1 none:=zaf Wr _ _
 have hs0:W0.heap.size=w.heap.size+1:=by rw[hW0];simp
 have hsr:Wr.heap.size=w.heap.size+2:=by rw[hWr,hW0];simp
 rw[hs0] at hBr
 rw[hsr] at hB1
 have hBo:=(hB0.kept gr (by simp)).kept g1 (by simp)
 have hBr1:=hBr.kept g1 (by simp)
 have c0:=hBo.cell 0
 have c1:=hBo.cell 1
 simp only[List.getElem?_cons_zero,List.getElem?_cons_succ] at c0 c1
 have G1:=tn (tn g0 gr) g1
 have hs1:W1.heap.size=w.heap.size+3:=by rw[hW1,hWr,hW0];simp
 have hW:W1=((w.alloc (.cells #[.int .i64 k,.slice ao n c] 42)).alloc (.cells Z.toArray 126)).alloc (.cells Z.toArray 126):=by rw[hW1,hWr,hW0]
 have HW:=hide hW
 have hiZ:(Tryz.prog.info? 126).map (·.size)=some Z.toArray.size:=by rw[show Z.toArray.size=34 by simpa using hZl];exact ze8
 obtain ⟨HIZ,HZB,HZO,HBR,HZ,HZL⟩:=zh6 hiZ hzb hZo hBr1 hZ hZl
 have HG1:=hide G1
 clear hiZ hzb hZo
 by_cases hk:k=4
 ·subst hk
  have cf:=zux w W1 G1 ao c d hb (by omega) (w.heap.size+2) 4 (zcr (zbz d)) (fun V=>zpv (w.heap.size+2) (zbz d) V∧Blk V (w.heap.size+1) 126 Z) (fun a b h g=>⟨h.1.none g,h.2.kept g (by simp)⟩)
   (fun V rb bc gu gw hrb hRd hbk=>(zuu w V rb (w.heap.size+2) d (by omega) _ hZl gu (by omega) (by omega) (by omega) hRd (hB1.kept gw (by simp)) W1.heap.size bc hbk (by omega) (by omega) (w.heap.size+1) _ Z (hBr1.kept gw (by simp)) (by omega) (by omega)))
  rw[← hn] at cf
  rw[← hn]
  have hT:telM 4 d=(if zcr (zbz d)=(0,d) then (0,zbz d) else (11,zhi)):=by simp[telM]
  obtain ⟨t,ht⟩:∃ t,t=telM 4 d:=⟨_,rfl⟩
  rw[← ht] at hT ⊢
  obtain ⟨y,hy⟩:∃ y:Int,y=(if zcr (zbz d)=(0,d) then 0 else 11):=⟨_,rfl⟩
  rw[← hy] at cf
  have hyc:(y=0∧t=(0,zbz d))∨(y=11∧t=(11,zhi)):=by
   by_cases hq:zcr (zbz d)=(0,d)
   ·left;rw[hT,hy,if_pos hq,if_pos hq];exact ⟨rfl,rfl⟩
   ·right;rw[hT,hy,if_neg hq,if_neg hq];exact ⟨rfl,rfl⟩
  have hok:=zhp d
  clear hW1 hW0 hW hB0 hB1 hBo g0 g1 hT hy hn ht hs0 hs1 hb hd hWr hBr hBr1 gr hsr hZ hZl G1
  rcases hyc with ⟨rfl,ht⟩ | ⟨rfl,ht⟩
  ·have HT:=hide ht
   clear ht
   go_enter Tryz.func121,Tryz.ntmps121
   go_wp2_with (rw[← uh HW])
   refine cf.mono ?_
   rintro e w2 ⟨rfl,⟨hB2,hB3⟩,g2⟩
   obtain ⟨C,hC⟩:∃ C,C=mkC (zbz d):=⟨_,rfl⟩
   unfold zpv at hB2
   rw[← hC] at hB2
   have hCl:C.length=34:=by rw[hC];exact zh7 _ hok.1
   have hCo:C.toArray.all (·.oneCell')=true:=by rw[hC];exact all_oneCell_toArray (zh8 _)
   have hr2:=zak hB2
   have hiC:(Tryz.prog.info? 126).map (·.size)=some C.length:=by rw[hCl];exact ze8
   have hiC2:(Tryz.prog.info? 126).map (·.size)=some C.toArray.size:=by simpa using hiC
   have hZC:Z.toArray.size=C.toArray.size:=by have:=uh HZL;simp[this,hCl]
   obtain ⟨HIC,HIC2,HZC,HCO,HC,HB2⟩:=zh6 hiC hiC2 hZC hCo hC hB2
   clear cf c0 c1 hiC hiC2 hZC hCo hC hCl hB2 hok
   go_wp2_with (first
    | (refine wpList_load_mid rfl 126 _ rfl (w.heap.size+2) 0 rfl C _ hr2 Tryz.underlying126 rfl (uh HIC) ?_;clear hr2)
    | (refine wpList_store_row rfl 126 _ _ rfl (w.heap.size+1) C.toArray rfl rfl _ _ hB3 (uh HIC2) (uh HZC) (uh HCO) ?_))
   refine bodyPost_ret (zah rfl _ _ _ _ _ _ _ rfl (hB3.row C) Tryz.underlying126 rfl (uh HIC2)) rfl ?_
   have gF:=zan g2 C.toArray (Or.inl (Nat.le_succ w.heap.size))
   rw[uh HT]
   rw[uh HC] at gF ⊢
   exact ⟨0,rfl,rfl,gF⟩
  ·have HT:=hide ht
   clear ht
   go_enter Tryz.func121,Tryz.ntmps121
   go_wp2_with (rw[← uh HW])
   refine cf.mono ?_
   rintro e w2 ⟨rfl,⟨hkp,hB3⟩,g2⟩
   clear cf hkp c0 c1 hok
   go_wp2_with (first
    | (refine zaw rfl 126 _ rfl Z.toArray ?hbs ?_)
    | (refine wpList_store_row rfl 126 _ _ rfl (w.heap.size+1) Z.toArray rfl rfl _ _ hB3 (uh HIZ) rfl (uh HZO) ?_))
   case hbs=>simpa using uh HZB
   refine bodyPost_ret (zah rfl _ _ _ _ _ _ _ rfl (hB3.row Z) Tryz.underlying126 rfl (uh HIZ)) rfl ?_
   have gF:=zan g2 Z.toArray (Or.inl (Nat.le_succ w.heap.size))
   rw[uh HT]
   rw[uh HZ] at gF ⊢
   exact ⟨_,rfl,rfl,gF⟩
 ·have cf:=ziq W1 k 4 (by simpa using hk) ao n c (.func (.func 149) #[] #[.pointer (some ⟨w.heap.size+2,0,none⟩)])
  rw[← hn]
  have ht:telM k d=(2,zhi):=by simp[telM,hk]
  have HT:=hide ht
  clear hW1 hW0 hW hB0 hB1 hBo g0 g1 hn ht hs0 hs1 hb hd hWr hBr hBr1 gr hsr hZ hZl G1
  go_enter Tryz.func121,Tryz.ntmps121
  go_wp2_with (rw[← uh HW])
  refine cf.mono ?_
  rintro e w2 ⟨rfl,g2a⟩
  have g2:=tn (uh HG1) g2a
  have hB3:=(uh HBR).kept g2a (by simp)
  clear cf c0 c1
  go_wp2_with (first
   | (refine zaw rfl 126 _ rfl Z.toArray ?hbs ?_)
   | (refine wpList_store_row rfl 126 _ _ rfl (w.heap.size+1) Z.toArray rfl rfl _ _ hB3 (uh HIZ) rfl (uh HZO) ?_))
  case hbs=>simpa using uh HZB
  refine bodyPost_ret (zah rfl _ _ _ _ _ _ _ rfl (hB3.row Z) Tryz.underlying126 rfl (uh HIZ)) rfl ?_
  have gF:=zan g2 Z.toArray (Or.inl (Nat.le_succ w.heap.size))
  rw[uh HT]
  rw[uh HZ] at gF ⊢
  exact ⟨_,rfl,rfl,gF⟩
def zdq (w w' : World) (k:Int) (d:List UInt8) (e:Ending):Prop:=∃ v y,e = .returned (.tuple #[v,.int .i64 y])∧y=zas k d∧w'.ownsRow w.heap.size 33 32 v (zbl k d).length ((zbl k d).flatMap (·.map bv))∧w.grownBy w' none
theorem zdq.bad {w w' : World} {k:Int} {d:List UInt8} {y:Int} (hy:zas k d=y) (h0:y≠0) (g:w.grownBy w' none):zdq w w' k d (.returned (.tuple #[.slice none 0 0,.int .i64 y])):=by
 have hl:zbl k d=[]:=by unfold zbl;rw[hy,if_pos h0]
 exact ⟨_,y,rfl,hy.symm,by rw[hl];exact World.ownsRow_nil _ _ _ _,g⟩
theorem zyc (d:List UInt8) (h:d.length≤16384):zas 2 d=(telT 2 d).1∧((telT 2 d).1=0→zbl 2 d=(telT 2 d).2.map (·.id))∧((telT 2 d).1=0∨(telT 2 d).1=11∧(telT 2 d).2=[]):=by
 have h1:¬ 16384<d.length:=by omega
 have hc:zas 2 d=errO (zeq d):=by simp[zas,h1]
 by_cases hq:za6 (zby d)=(0,d)
 ·have e1:zeq d=some (zby d):=by simp[zeq,hq]
  have e2:telT 2 d=(0,zby d):=by simp[telT,hq]
  refine ⟨by rw[hc,e1,e2];rfl,fun _ => ?_,by rw[e2];exact Or.inl rfl⟩
  unfold zbl
  rw[hc,e1,e2]
  simp[errO]
 ·have e1:zeq d=none:=by simp[zeq,hq]
  have e2:telT 2 d=(11,[]):=by simp[telT,hq]
  refine ⟨by rw[hc,e1,e2];rfl,fun h => ?_,by rw[e2];exact Or.inr ⟨rfl,rfl⟩⟩
  rw[e2] at h
  exact absurd h (by decide)
theorem zyd (d:List UInt8) (h:d.length≤16384):zas 3 d=(telC 3 d).1∧((telC 3 d).1=0→zbl 3 d=(telC 3 d).2.tree::(telC 3 d).2.pars)∧((telC 3 d).1=0∨(telC 3 d).1=11)∧(telC 3 d).2.tree.length=32∧(∀ x∈(telC 3 d).2.pars,x.length=32)∧(telC 3 d).2.pars.length≤4:=by
 have h1:¬ 16384<d.length:=by omega
 have hc:zas 3 d=errO (zfk d):=by simp[zas,h1]
 by_cases hq:zcf (zbf d)=(0,d)
 ·have e1:zfk d=some (zbf d):=by simp[zfk,hq]
  have e2:telC 3 d=(0,zbf d):=by simp[telC,hq]
  have hok:=zde d
  refine ⟨by rw[hc,e1,e2];rfl,fun _ => ?_,by rw[e2];exact Or.inl rfl,by rw[e2];exact hok.1,by rw[e2];exact hok.2.1,by rw[e2];exact hok.2.2.1⟩
  unfold zbl
  rw[hc,e1,e2]
  simp[errO]
 ·have e1:zfk d=none:=by simp[zfk,hq]
  have e2:telC 3 d=(11,ze1):=by simp[telC,hq]
  refine ⟨by rw[hc,e1,e2];rfl,fun h => ?_,by rw[e2];exact Or.inr rfl,by rw[e2];rfl,by rw[e2];intro x hx;simp[ze1] at hx,by rw[e2];exact Nat.zero_le _⟩
  rw[e2] at h
  exact absurd h (by decide)
theorem zye (d:List UInt8) (h:d.length≤16384):zas 4 d=(telM 4 d).1∧((telM 4 d).1=0→zbl 4 d=[(telM 4 d).2.target])∧((telM 4 d).1=0∨(telM 4 d).1=11)∧(telM 4 d).2.target.length=32:=by
 have h1:¬ 16384<d.length:=by omega
 have hc:zas 4 d=errO (zi9 d):=by simp[zas,h1]
 by_cases hq:zcr (zbz d)=(0,d)
 ·have e1:zi9 d=some (zbz d):=by simp[zi9,hq]
  have e2:telM 4 d=(0,zbz d):=by simp[telM,hq]
  refine ⟨by rw[hc,e1,e2];rfl,fun _ => ?_,by rw[e2];exact Or.inl rfl,by rw[e2];exact (zhp d).1⟩
  unfold zbl
  rw[hc,e1,e2]
  simp[errO]
 ·have e1:zi9 d=none:=by simp[zi9,hq]
  have e2:telM 4 d=(11,zhi):=by simp[telM,hq]
  refine ⟨by rw[hc,e1,e2];rfl,fun h => ?_,by rw[e2];exact Or.inr rfl,by rw[e2];rfl⟩
  rw[e2] at h
  exact absurd h (by decide)
theorem zpy (w:World) (k:Int) (hk:k<1∨4<k) (ao:Option Addr) (c:Nat) (d:List UInt8):Calls Tryz.prog 91 #[.agg #[.int .i64 k,.slice ao d.length c]] w fun e w'=>zdq w w' k d e:=by
 have hc:zas k d=2:=by unfold zas;rw[if_pos hk]
 have HC:=hide hc
 obtain ⟨n,hn⟩:∃ n,n=d.length:=⟨_,rfl⟩
 rw[← hn]
 clear hc hn
 by_cases h1:k<1
 ·have g0:w.grownBy (w.alloc (.cells #[.int .i64 k,.slice ao n c] 42)) none:=zag (zaa _ _) _
  clear hk
  go_enter Tryz.func91,Tryz.ntmps91
  go_wp2
  refine bodyPost_ret (v := .tuple #[.slice none 0 0,.int .i64 2]) (by simp[results,Tryz.results91,go_sem]) rfl ?_
  exact zdq.bad (uh HC) (by decide) g0
 ·have h2:4<k:=by omega
  have g0:w.grownBy (w.alloc (.cells #[.int .i64 k,.slice ao n c] 42)) none:=zag (zaa _ _) _
  clear hk
  go_enter Tryz.func91,Tryz.ntmps91
  go_wp2
  refine bodyPost_ret (v := .tuple #[.slice none 0 0,.int .i64 2]) (by simp[results,Tryz.results91,go_sem]) rfl ?_
  exact zdq.bad (uh HC) (by decide) g0
theorem zpz (w:World) (k:Int) (h1:¬ k<1) (h4:¬ 4<k) (ao:Option Addr) (c:Nat) (d:List UInt8) (hd:16384<d.length):Calls Tryz.prog 91 #[.agg #[.int .i64 k,.slice ao d.length c]] w fun e w'=>zdq w w' k d e:=by
 have hc:zas k d=3:=by unfold zas;rw[if_neg (by omega),if_pos hd]
 have HC:=hide hc
 obtain ⟨n,hn⟩:∃ n,n=d.length:=⟨_,rfl⟩
 have hd2:(16384:Int)<(n:Int):=by omega
 rw[← hn]
 clear hc hn hd
 have g0:w.grownBy (w.alloc (.cells #[.int .i64 k,.slice ao n c] 42)) none:=zag (zaa _ _) _
 go_enter Tryz.func91,Tryz.ntmps91
 go_wp2
 refine bodyPost_ret (v := .tuple #[.slice none 0 0,.int .i64 3]) (by simp[results,Tryz.results91,go_sem]) rfl ?_
 exact zdq.bad (uh HC) (by decide) g0
theorem zm0 (w:World) (ao:Option Addr) (c:Nat) (d:List UInt8) (hd:d.length≤16384):Calls Tryz.prog 91 #[.agg #[.int .i64 1,.slice ao d.length c]] w fun e w'=>zdq w w' 1 d e:=by
 have hc:zas 1 d=0:=by unfold zas;rw[if_neg (by omega),if_neg (by omega)];rfl
 have hl:zbl 1 d=[]:=by unfold zbl;rw[hc];rfl
 obtain ⟨HC,HL⟩:=zh2 hc hl
 obtain ⟨n,hn⟩:∃ n,n=d.length:=⟨_,rfl⟩
 have hd2:¬ (16384:Int)<(n:Int):=by omega
 rw[← hn]
 clear hc hn hd hl
 have g0:w.grownBy (w.alloc (.cells #[.int .i64 1,.slice ao n c] 42)) none:=zag (zaa _ _) _
 go_enter Tryz.func91,Tryz.ntmps91
 go_wp2
 refine bodyPost_ret (v := .tuple #[.slice none 0 0,.int .i64 0]) (by simp[results,Tryz.results91,go_sem]) rfl ?_
 exact ⟨_,0,rfl,(uh HC).symm,by rw[uh HL];exact World.ownsRow_nil _ _ _ _,g0⟩
theorem zec {w:World} {ops:Array Oper} {rest:List Oper} {o:Oper} {a:Act} {Q:Exit→Act→World→Prop} (hgd:o.guard=none) (s x:Operand)
  (ho:o.op = .call { callee := .builtin .append,args := #[s,x],argTypes := #[29,29] })
  (base:Nat) (v:Value) (n:Nat) (xs:List Value) (hs:a.eval s=v) (hown:w.ownsRow base 33 32 v n xs)
  (ao:Option Addr) (c:Nat) (ps:List (List UInt8)) (hP:Ids w ao c ps) (hx:a.eval x = .slice ao ps.length c) (hn:n+ps.length≤100000) (hbase:base≤w.heap.size)
  (h:∀ v' w',w'.ownsRow base 33 32 v' (n+ps.length) (xs++ps.flatMap (·.map bv))→w.grownBy w' v.ownBlock→wpList Tryz.prog ops Q rest (a.put o.dst v') w'):wpList Tryz.prog ops Q (o::rest) a w:=by
 obtain ⟨i0,hi,hz0,hz1,hz2⟩:=info_parts zf4
 cases ao with
 | none =>
  have hz:=hP.zip rfl
  have hx0:ps=[]:=List.eq_nil_of_length_eq_zero hz.1
  have hc0:=hz.2
  subst hx0 hc0
  exact wpList_append_own_none hgd s x 29 ho base 33 i0 32 Tryz.underlying29 hi v n xs hs hown hx (h v w (by simpa using hown) (zaa _ _))
 | some ad =>
  refine wpList_append_own w hgd s x 29 ho base 33 i0 _ 32 32 Tryz.underlying29 hi hz0 hz1 hz2 rfl (by decide) v n xs hs hown ad ps.length c (ps.flatMap (·.map bv)) hx (zbx _ 32 ps (fun x hx=>by simp[hP.ids x hx])) ?_ ?_ (by unfold maxLen;omega) (by omega) hbase (fun v' w' q1 q2 _=>h v' w' q1 q2)
  ·intro j u hu
   have hl:=zbx (fun x:List UInt8=>x.map bv) 32 ps (fun x hx=>by simp[hP.ids x hx])
   have hj:=(List.getElem?_eq_some_iff.1 hu).1
   rw[hl] at hj
   have hq:j / 32<ps.length:=by omega
   have hs2:=hP.shape ad rfl (by omega)
   have hr:=hP.row ad rfl (j / 32) hq
   rw[show j=j / 32*32+j % 32 by omega,zjw (fun x:List UInt8=>x.map bv) 32 ps (fun x hx=>by simp[hP.ids x hx]) (j / 32) (j % 32) hq (by omega)] at hu
   have h5:=hr (j % 32) u hu
   obtain ⟨b,o,sp⟩:=ad
   simp only at hs2 h5
   subst hs2
   rw[Addr.add_lit]
   rw[show o+j=o+j / 32*32+j % 32 by omega]
   exact h5
  ·intro u hu
   obtain ⟨x,_,hx⟩:=List.mem_flatMap.1 hu
   exact za4 _ u hx
theorem zuy (es:List EntL) (j:Nat) (hj:j<es.length):((es.take (j+1)).map (·.id)).flatMap (·.map bv)=((es.take j).map (·.id)).flatMap (·.map bv)++es[j].id.map bv:=by
 rw[List.take_succ_eq_append_getElem hj,List.map_append,List.flatMap_append]
 simp only[List.map_cons,List.map_nil,List.flatMap_cons,List.flatMap_nil,List.append_nil]
theorem zn7 (k:Int) (d:List UInt8):(telT k d).2.length≤32:=by
 unfold telT
 split
 ·split
  ·unfold zby
   simp only[zka]
   exact Nat.min_le_right _ _
  ·exact Nat.zero_le _
 ·exact Nat.zero_le _
set_option maxHeartbeats 4000000 in
theorem zm1 (w:World) (ao:Option Addr) (c:Nat) (d:List UInt8) (hb:Bts w ao c d) (hd:d.length≤16384):Calls Tryz.prog 91 #[.agg #[.int .i64 2,.slice ao d.length c]] w fun e w'=>zdq w w' 2 d e:=by
 obtain ⟨k1,k2,k3⟩:=zyc d hd
 obtain ⟨n,hn⟩:∃ n,n=d.length:=⟨_,rfl⟩
 have hd2:¬ (16384:Int)<(n:Int):=by omega
 obtain ⟨W0,hW0,hB0,g0⟩:∃ W1,W1=w.alloc (.cells #[.int .i64 2,.slice ao n c] 42)∧Blk W1 w.heap.size 42 [.int .i64 2,.slice ao n c]∧w.grownBy W1 none:=zaf w _ _
 have c0:=hB0.cell 0
 have c1:=hB0.cell 1
 simp only[List.getElem?_cons_zero,List.getElem?_cons_succ] at c0 c1
 have ct:=zpw W0 2 ao c d (hb.kept g0 (fun _ e=>by cases e)) (by omega)
 obtain ⟨t,ht⟩:∃ t,t=telT 2 d:=⟨_,rfl⟩
 rw[← ht] at ct k1 k2 k3
 rw[← hn] at ct ⊢
 have hids:∀ e∈t.2,e.id.length=32:=by
  rw[ht]
  unfold telT
  split
  ·split
   ·exact zio d
   ·intro e he;simp at he
  ·intro e he;simp at he
 have HLN:=hide (show t.2.length≤32 by rw[ht];exact zn7 2 d)
 obtain ⟨Z,hZ,hzv⟩:=zj6
 obtain ⟨HW0,HK1,HK2,HK3,HIDS,HZ⟩:=zh6 hW0 k1 k2 k3 hids hZ
 have HG0:=hide g0
 clear k1 k2 k3 hn hW0 hB0 g0 hb hd ht hids hZ
 go_enter Tryz.func91,Tryz.ntmps91
 go_wp2_with (rw[← uh HW0])
 refine ct.mono ?_
 rintro e w1 ⟨v1,y,rfl,hy,ho1,g1⟩
 obtain ⟨eo,ec,hv1⟩:=zbi ho1
 subst hv1
 have hE1:Ens w1 eo ec t.2:=by
  obtain ⟨ao2,c2,e1,e2⟩:=Ens.own ho1 (uh HIDS)
  injection e1 with e3 e4 e5
  subst e3 e5
  exact e2
 have G1:=tn (uh HG0) g1
 obtain ⟨es,hes⟩:∃ es,es=t.2:=⟨_,rfl⟩
 rw[← hes] at hE1
 rw[← hes]
 obtain ⟨m,hm⟩:∃ m,m=es.length:=⟨_,rfl⟩
 rw[← hm]
 have hm9:m≤32:=by rw[hm,hes];exact uh HLN
 obtain ⟨HE,HM,HES,HY,HG1⟩:=zh5 hE1 hm hes hy G1
 clear ct ho1 hE1 g1 hes hm hy c0 c1 G1
 go_wp2
 go_loopw [4,34] (fun v i wr=>∃ j:Nat,i = .int .i64 j∧j≤m∧wr.ownsRow w1.heap.size 33 32 v j (((es.take j).map (·.id)).flatMap (·.map bv))∧w1.grownBy wr none) (fun _ i _=>m - (intOf i).toNat)
 case atStart=>exact ⟨0,rfl,Nat.zero_le _,World.ownsRow_nil _ _ _ _,zaa _ _⟩
 case round =>
  obtain ⟨j,rfl,hj,ho,hg⟩:=hrel
  by_cases hlt:j<m
  ·have hlt' : j<es.length:=by have:=uh HM;omega
   obtain ⟨b,o,hao,hrow⟩:=(uh HE).at j hlt'
   have hr:=zae (hrow j hlt') hg (by simp)
   have hid:=(uh HE).ids _ (List.getElem_mem hlt')
   have hnew:=zuy es j hlt'
   obtain ⟨E,hEE⟩:∃ E,E=es[j]:=⟨_,rfl⟩
   rw[← hEE] at hr hid hnew
   clear hrow hEE hlt'
   subst hao
   obtain ⟨nm,D,id⟩:=E
   simp only at hid hnew
   obtain ⟨EC,hEC⟩:∃ L,L=enC ⟨nm,D,id⟩:=⟨_,rfl⟩
   have hEl:EC.length=34:=by rw[hEC];exact zgt _ hid
   have hEo:EC.toArray.all (·.oneCell')=true:=by rw[hEC];exact all_oneCell_toArray (zgu _)
   obtain ⟨W,hW,hB,gW⟩:=zbe wr 123 Z EC
   have hRI:W.rangeAt wr.heap.size 2 (id.map bv):=by
    have:=zak hB
    rw[hEC] at this
    simpa using zx3 this
   rw[← hEC] at hr
   obtain ⟨IC,hIC⟩:∃ I,I=id.map bv:=⟨_,rfl⟩
   have hbs:=zfl id hid W
   rw[← hIC] at hRI hbs hnew
   have hIl:IC.length=32:=by rw[hIC,List.length_map,hid]
   have hI1:∀ u∈IC,u.oneCell'=true:=by rw[hIC];exact za4 _
   obtain ⟨W5,hW5,hB5,g5⟩:=zaf W 33 IC
   have ho5:=zbd (zbd ho gW (fun x e=>by cases e)) g5 (fun x e=>by cases e)
   have G5:=tn (tn hg gW) g5
   obtain ⟨HW,HW5,HEO,HNW,HRI,HBS⟩:=zh6 hW hW5 hEo hnew hRI hbs
   obtain ⟨HIL,HI1,HB5,HO5,HG5⟩:=zh5 hIl hI1 hB5 ho5 G5
   have hiE:(Tryz.prog.info? 123).map (·.size)=some EC.length:=by rw[hEl];exact zj4
   have HIE:=hide hiE
   have hiI:(Tryz.prog.info? 33).map (·.size)=some IC.length:=by rw[hIl];exact zar
   have HII:=hide hiI
   have hZE:Z.size=EC.toArray.size:=by rw[uh HZ];simp[hEl]
   have HZE:=hide hZE
   have hj9:j≤100000:=by omega
   clear hW hB hEC hEo hnew hRI hIC hbs hIl hI1 hW5 hB5 g5 ho5 G5 hiE hiI hZE ho hg gW hid hEl
   go_wp2_with (first
    | (refine wpList_load_mid rfl 123 _ rfl b (o+j*34) rfl EC _ hr Tryz.underlying123 rfl (uh HIE) ?_;clear hr)
    | (refine wpList_store_row rfl 123 _ _ rfl wr.heap.size EC.toArray rfl rfl _ _ (heap_alloc_new _ _) (by simpa using uh HIE) (uh HZE) (uh HEO) ?_;rw[← uh HW])
    | (refine wpList_load_mid rfl 33 _ rfl wr.heap.size 2 rfl IC _ (uh HRI) Tryz.underlying33 rfl (uh HII) ?_)
    | (refine zav rfl 29 _ rfl (.agg IC.toArray) _ rfl (uh HBS) ?_;rw[← uh HW5])
    | (refine zb5 rfl _ _ rfl w1.heap.size _ _ _ rfl (uh HO5) _ IC (uh HB5) (uh HIL) (uh HI1) rfl hj9 (uh HG5).size ?_;intro v6 w6 ho6 g6;have HO6:=hide ho6;have HG6:=hide (zad (uh HG5) g6 (fun x e=>Or.inl ((uh HO5).lt x e).1));clear ho6 g6 HO5 HG5))
   go_roundw
   case rel =>
    refine ⟨j+1,by go_num,by omega,?_,uh HG6⟩
    rw[uh HNW]
    exact uh HO6
   case measure=>simp[intOf];omega
  ·have hjn:j=es.length:=by have:=uh HM;omega
   have hfin:wr.ownsRow w.heap.size 33 32 u4 (es.map (·.id)).length ((es.map (·.id)).flatMap (·.map bv)):=by
    have h1:=za7 ho (uh HG1).size
    rw[hjn,List.take_of_length_le (Nat.le_refl _)] at h1
    rw[List.length_map];exact h1
   have HF:=hide hfin
   have HG:=hide (tn (uh HG1) hg)
   clear hjn hfin ho hg
   rcases (uh HK3) with h0 | ⟨h11,hnil⟩
   ·have hy0:y=0:=by rw[uh HY,h0]
    subst hy0
    have hl:zbl 2 d=es.map (·.id):=by rw[uh HK2 h0,uh HES]
    have hc:zas 2 d=0:=by rw[uh HK1,h0]
    obtain ⟨HLL,HCC⟩:=zh2 hl hc
    clear hl hc h0
    go_wp2
    refine bodyPost_ret (v := .tuple #[u4,.int .i64 0]) (by simp[results,Tryz.results91,go_sem]) rfl ?_
    exact ⟨u4,0,rfl,(uh HCC).symm,by rw[uh HLL];exact uh HF,uh HG⟩
   ·have hy0:y=11:=by rw[uh HY,h11]
    subst hy0
    have hc:zas 2 d=11:=by rw[uh HK1,h11]
    have HCC:=hide hc
    clear hc h11 hnil
    go_wp2
    refine bodyPost_ret (v := .tuple #[.slice none 0 0,.int .i64 11]) (by simp[results,Tryz.results91,go_sem]) rfl ?_
    exact zdq.bad (uh HCC) (by decide) (uh HG)
theorem zln (V:World) (base:Nat) (IC:List Value) (hb:base≤V.heap.size) (hl:IC.length=32):(V.alloc (.cells IC.toArray 33)).ownsRow base 33 32 (.slice (some ⟨V.heap.size,0,none⟩) 1 1) 1 IC :=
 ⟨by simp[hl],.inr ⟨V.heap.size,1,IC.toArray,rfl,hb,heap_alloc_new V _,Nat.le_refl _,by decide,by simp[hl],by simp[hl,List.take_of_length_le]⟩⟩
set_option maxHeartbeats 4000000 in
theorem zp0 (w:World) (ao:Option Addr) (c:Nat) (d:List UInt8) (hb:Bts w ao c d) (hd:d.length≤16384):Calls Tryz.prog 91 #[.agg #[.int .i64 3,.slice ao d.length c]] w fun e w'=>zdq w w' 3 d e:=by
 obtain ⟨k1,k2,k3,k4,k5,k6⟩:=zyd d hd
 obtain ⟨n,hn⟩:∃ n,n=d.length:=⟨_,rfl⟩
 have hd2:¬ (16384:Int)<(n:Int):=by omega
 obtain ⟨Z,hZ⟩:∃ Z:List Value,Z=chC ze1 none 0:=⟨_,rfl⟩
 have hzv:∀ w,(zeroValue 70).run Tryz.prog w = .ok (.agg Z.toArray) w:=fun w=>by rw[hZ];kernel_rfl
 have hZl:Z.length=36:=by rw[hZ];rfl
 obtain ⟨W0,hW0,hB0,g0⟩:∃ W1,W1=w.alloc (.cells #[.int .i64 3,.slice ao n c] 42)∧Blk W1 w.heap.size 42 [.int .i64 3,.slice ao n c]∧w.grownBy W1 none:=zaf w _ _
 obtain ⟨W1,hW1,hB1,g1⟩:∃ W1,W1=W0.alloc (.cells Z.toArray 70)∧Blk W1 W0.heap.size 70 Z∧W0.grownBy W1 none:=zaf W0 _ _
 have hs0:W0.heap.size=w.heap.size+1:=by rw[hW0];simp
 rw[hs0] at hB1
 have hBo:=hB0.kept g1 (by simp)
 have b0:=hBo.cell 0
 have b1:=hBo.cell 1
 simp only[List.getElem?_cons_zero,List.getElem?_cons_succ] at b0 b1
 have G1:=tn g0 g1
 have ct:=zda W1 3 ao c d (hb.kept G1 (fun _ e=>by cases e)) (by omega)
 obtain ⟨t,ht⟩:∃ t,t=telC 3 d:=⟨_,rfl⟩
 rw[← ht] at ct k1 k2 k3 k4 k5 k6
 rw[← hn] at ct ⊢
 have hW:W1=(w.alloc (.cells #[.int .i64 3,.slice ao n c] 42)).alloc (.cells Z.toArray 70):=by rw[hW1,hW0]
 obtain ⟨HW1,HK1,HK2,HK3,HK4,HK5⟩:=zh6 hW k1 k2 k3 k4 k5
 obtain ⟨HK6,HB1,HG1,HZL⟩:=zh4 k6 hB1 G1 hZl
 clear k1 k2 k3 k4 k5 k6 hn hW0 hB0 g0 hb hd ht hZ hW1 hW hBo g1 hs0 hB1 G1 hZl
 go_enter Tryz.func91,Tryz.ntmps91
 go_wp2_with (rw[← uh HW1])
 refine ct.mono ?_
 rintro e w2 ⟨po,pc,y,rfl,hy,ho2,g2⟩
 have hBp:=(uh HB1).kept g2 (by simp)
 have G2:=tn (uh HG1) g2
 obtain ⟨C,hC⟩:∃ C,C=chC t.2 po pc:=⟨_,rfl⟩
 rw[← hC]
 have hCl:C.length=36:=by rw[hC];exact zd3 _ _ _ (uh HK4)
 have hCo:C.toArray.all (·.oneCell')=true:=by rw[hC];exact all_oneCell_toArray (zej _ _ _)
 obtain ⟨w3,hw3⟩:∃ V,V=w2.setRow (w.heap.size+1) C.toArray:=⟨_,rfl⟩
 have hB3:Blk w3 (w.heap.size+1) 70 C:=by rw[hw3];exact hBp.row _
 have G3:w.grownBy w3 none:=by rw[hw3];exact zan G2 _ (Or.inl (Nat.le_succ _))
 have hrT:w3.rangeAt (w.heap.size+1) 0 (t.2.tree.map bv):=by
  have h1:=zak hB3
  rw[hC] at h1
  exact zj5 h1
 obtain ⟨IC,hIC⟩:∃ I,I=t.2.tree.map bv:=⟨_,rfl⟩
 have hbs:=zfl t.2.tree (uh HK4) w3
 rw[← hIC] at hrT hbs
 have hIl:IC.length=32:=by rw[hIC,List.length_map,uh HK4]
 obtain ⟨W5,hW5,hB5,g5⟩:=zaf w3 33 IC
 have ho5:W5.ownsRow w3.heap.size 33 32 (.slice (some ⟨w3.heap.size,0,none⟩) 1 1) 1 IC:=by rw[hW5];exact zln w3 w3.heap.size IC (Nat.le_refl _) hIl
 have G5:=tn G3 g5
 have hiC:(Tryz.prog.info? 70).map (·.size)=some C.toArray.size:=by rw[show C.toArray.size=36 by simpa using hCl];exact zbu
 have hZC:Z.toArray.size=C.toArray.size:=by have:=uh HZL;simp[this,hCl]
 have hiI:(Tryz.prog.info? 33).map (·.size)=some IC.length:=by rw[hIl];exact zar
 have hcp:W5.cell? ⟨w.heap.size+1,32,none⟩=some (.slice po t.2.pars.length pc):=by
  rw[(hB3.kept g5 (by simp)).cell 32,hC,(zev _ _ _ (uh HK4)).1]
 have hO3:w3.ownsRow w.heap.size 33 32 (.slice po t.2.pars.length pc) t.2.pars.length (t.2.pars.flatMap (·.map bv)):=by
  rw[hw3];exact zbr (za7 ho2 (uh HG1).size) hBp (by decide) _
 have hP5:Ids W5 po pc t.2.pars:=by
  obtain ⟨ao2,c2,e1,e2⟩:=Ids.own (zbd hO3 g5 (fun x e=>by cases e)) (uh HK5)
  injection e1 with e3 e4 e5
  subst e3 e5
  exact e2
 have hp9:1+t.2.pars.length≤100000:=by have:=uh HK6;omega
 obtain ⟨ps,hps⟩:∃ ps,ps=t.2.pars:=⟨_,rfl⟩
 rw[← hps] at hcp hP5 hp9
 obtain ⟨HPS,HP5,HIC,HZC,HII,HCO⟩:=zh6 hps hP5 hiC hZC hiI hCo
 obtain ⟨HW3,HW5,HBP,HO5,HG5⟩:=zh5 hw3 hW5 hBp ho5 G5
 have HS5:=hide g5.size
 obtain ⟨HIE,HY,HBS⟩:=zh3 hIC hy hbs
 have HS3:=hide G3.size
 clear hiC hZC hiI hCo hw3 hW5 hBp ho5 G5 hIC hy hbs hB5 g5 hIl hCl hC hB3 G3 G2 ct b0 b1 g2 ho2 hO3 hP5 hps
 rcases (uh HK3) with h0 | h11
 ·have hy0:y=0:=by rw[uh HY,h0]
  subst hy0
  have hl:zbl 3 d=t.2.tree::t.2.pars:=uh HK2 h0
  have hc:zas 3 d=0:=by rw[uh HK1,h0]
  obtain ⟨HLL,HCC⟩:=zh2 hl hc
  clear hl hc h0
  go_wp2_with (first
   | (refine wpList_store_row rfl 70 _ _ rfl (w.heap.size+1) C.toArray rfl rfl _ _ (uh HBP) (uh HIC) (uh HZC) (uh HCO) ?_;rw[← uh HW3])
   | (refine wpList_load_mid rfl 33 _ rfl (w.heap.size+1) 0 rfl IC _ hrT Tryz.underlying33 rfl (uh HII) ?_;clear hrT)
   | (refine zav rfl 29 _ rfl (.agg IC.toArray) _ rfl (uh HBS) ?_;rw[← uh HW5])
   | (refine zec rfl _ _ rfl w3.heap.size _ _ _ rfl (uh HO5) po pc ps (uh HP5) rfl hp9 (uh HS5) ?_;intro v6 w6 ho6 g6;have HO6:=hide ho6;have HG6:=hide (zad (uh HG5) g6 (fun x e=>Or.inl (Nat.le_trans (uh HS3) ((uh HO5).lt x e).1)));clear ho6 g6))
  refine bodyPost_ret (v := .tuple #[v6,.int .i64 0]) (by simp[results,Tryz.results91,go_sem]) rfl ?_
  refine ⟨v6,0,rfl,(uh HCC).symm,?_,uh HG6⟩
  rw[uh HLL,← uh HPS,List.length_cons,List.flatMap_cons,← uh HIE,Nat.add_comm]
  exact za7 (uh HO6) (uh HS3)
 ·have hy0:y=11:=by rw[uh HY,h11]
  subst hy0
  have hc:zas 3 d=11:=by rw[uh HK1,h11]
  have HCC:=hide hc
  clear hc h11
  go_wp2_with (first
   | (refine wpList_store_row rfl 70 _ _ rfl (w.heap.size+1) C.toArray rfl rfl _ _ (uh HBP) (uh HIC) (uh HZC) (uh HCO) ?_;rw[← uh HW3])
   | (refine wpList_load_mid rfl 33 _ rfl (w.heap.size+1) 0 rfl IC _ hrT Tryz.underlying33 rfl (uh HII) ?_;clear hrT)
   | (refine zav rfl 29 _ rfl (.agg IC.toArray) _ rfl (uh HBS) ?_;rw[← uh HW5])
   | (refine zec rfl _ _ rfl w3.heap.size _ _ _ rfl (uh HO5) po pc ps (uh HP5) rfl hp9 (uh HS5) ?_;intro v6 w6 ho6 g6;have HO6:=hide ho6;have HG6:=hide (zad (uh HG5) g6 (fun x e=>Or.inl (Nat.le_trans (uh HS3) ((uh HO5).lt x e).1)));clear ho6 g6))
  refine bodyPost_ret (v := .tuple #[.slice none 0 0,.int .i64 11]) (by simp[results,Tryz.results91,go_sem]) rfl ?_
  exact zdq.bad (uh HCC) (by decide) (uh HG6)
set_option maxHeartbeats 4000000 in
theorem zp1 (w:World) (ao:Option Addr) (c:Nat) (d:List UInt8) (hb:Bts w ao c d) (hd:d.length≤16384):Calls Tryz.prog 91 #[.agg #[.int .i64 4,.slice ao d.length c]] w fun e w'=>zdq w w' 4 d e:=by
 obtain ⟨k1,k2,k3,k4⟩:=zye d hd
 obtain ⟨n,hn⟩:∃ n,n=d.length:=⟨_,rfl⟩
 have hd2:¬ (16384:Int)<(n:Int):=by omega
 obtain ⟨Z,hZ⟩:∃ Z:List Value,Z=mkC zhi:=⟨_,rfl⟩
 have hzv:∀ w,(zeroValue 126).run Tryz.prog w = .ok (.agg Z.toArray) w:=fun w=>by rw[hZ];kernel_rfl
 have hZl:Z.length=34:=by rw[hZ];rfl
 obtain ⟨W0,hW0,hB0,g0⟩:∃ W1,W1=w.alloc (.cells #[.int .i64 4,.slice ao n c] 42)∧Blk W1 w.heap.size 42 [.int .i64 4,.slice ao n c]∧w.grownBy W1 none:=zaf w _ _
 obtain ⟨W1,hW1,hB1,g1⟩:∃ W1,W1=W0.alloc (.cells Z.toArray 126)∧Blk W1 W0.heap.size 126 Z∧W0.grownBy W1 none:=zaf W0 _ _
 have hs0:W0.heap.size=w.heap.size+1:=by rw[hW0];simp
 rw[hs0] at hB1
 have hBo:=hB0.kept g1 (by simp)
 have b0:=hBo.cell 0
 have b1:=hBo.cell 1
 simp only[List.getElem?_cons_zero,List.getElem?_cons_succ] at b0 b1
 have G1:=tn g0 g1
 have ct:=zpx W1 4 ao c d (hb.kept G1 (fun _ e=>by cases e)) (by omega)
 obtain ⟨t,ht⟩:∃ t,t=telM 4 d:=⟨_,rfl⟩
 rw[← ht] at ct k1 k2 k3 k4
 rw[← hn] at ct ⊢
 have hW:W1=(w.alloc (.cells #[.int .i64 4,.slice ao n c] 42)).alloc (.cells Z.toArray 126):=by rw[hW1,hW0]
 obtain ⟨HW1,HK1,HK2,HK3,HK4⟩:=zh5 hW k1 k2 k3 k4
 skip
 obtain ⟨HB1,HG1,HZL⟩:=zh3 hB1 G1 hZl
 clear k1 k2 k3 k4 hn hW0 hB0 g0 hb hd ht hZ hW1 hW hBo g1 hs0 hB1 G1 hZl
 go_enter Tryz.func91,Tryz.ntmps91
 go_wp2_with (rw[← uh HW1])
 refine ct.mono ?_
 rintro e w2 ⟨y,rfl,hy,g2⟩
 have hBp:=(uh HB1).kept g2 (by simp)
 have G2:=tn (uh HG1) g2
 obtain ⟨C,hC⟩:∃ C,C=mkC t.2:=⟨_,rfl⟩
 rw[← hC]
 have hCl:C.length=34:=by rw[hC];exact zh7 _ (uh HK4)
 have hCo:C.toArray.all (·.oneCell')=true:=by rw[hC];exact all_oneCell_toArray (zh8 _)
 obtain ⟨w3,hw3⟩:∃ V,V=w2.setRow (w.heap.size+1) C.toArray:=⟨_,rfl⟩
 have hB3:Blk w3 (w.heap.size+1) 126 C:=by rw[hw3];exact hBp.row _
 have G3:w.grownBy w3 none:=by rw[hw3];exact zan G2 _ (Or.inl (Nat.le_succ _))
 have hrT:w3.rangeAt (w.heap.size+1) 0 (t.2.target.map bv):=by
  have h1:=zak hB3
  rw[hC] at h1
  exact zk7 h1
 obtain ⟨IC,hIC⟩:∃ I,I=t.2.target.map bv:=⟨_,rfl⟩
 have hbs:=zfl t.2.target (uh HK4) w3
 rw[← hIC] at hrT hbs
 have hIl:IC.length=32:=by rw[hIC,List.length_map,uh HK4]
 obtain ⟨W5,hW5,hB5,g5⟩:=zaf w3 33 IC
 have ho5:W5.ownsRow w3.heap.size 33 32 (.slice (some ⟨w3.heap.size,0,none⟩) 1 1) 1 IC:=by rw[hW5];exact zln w3 w3.heap.size IC (Nat.le_refl _) hIl
 have G5:=tn G3 g5
 have hiC:(Tryz.prog.info? 126).map (·.size)=some C.toArray.size:=by rw[show C.toArray.size=34 by simpa using hCl];exact ze8
 have hZC:Z.toArray.size=C.toArray.size:=by have:=uh HZL;simp[this,hCl]
 have hiI:(Tryz.prog.info? 33).map (·.size)=some IC.length:=by rw[hIl];exact zar
 skip
 obtain ⟨HIC,HZC,HII,HCO,HW3,HW5⟩:=zh6 hiC hZC hiI hCo hw3 hW5
 obtain ⟨HBP,HO5,HG5⟩:=zh3 hBp ho5 G5
 have HS5:=hide g5.size
 obtain ⟨HIE,HY,HBS⟩:=zh3 hIC hy hbs
 have HS3:=hide G3.size
 clear hiC hZC hiI hCo hw3 hW5 hBp ho5 G5 hIC hy hbs hB5 g5 hIl hCl hC hB3 G3 G2 ct b0 b1 g2 
 rcases (uh HK3) with h0 | h11
 ·have hy0:y=0:=by rw[uh HY,h0]
  subst hy0
  have hl:zbl 4 d=[t.2.target]:=uh HK2 h0
  have hc:zas 4 d=0:=by rw[uh HK1,h0]
  obtain ⟨HLL,HCC⟩:=zh2 hl hc
  clear hl hc h0
  go_wp2_with (first
   | (refine wpList_store_row rfl 126 _ _ rfl (w.heap.size+1) C.toArray rfl rfl _ _ (uh HBP) (uh HIC) (uh HZC) (uh HCO) ?_;rw[← uh HW3])
   | (refine wpList_load_mid rfl 33 _ rfl (w.heap.size+1) 0 rfl IC _ hrT Tryz.underlying33 rfl (uh HII) ?_;clear hrT)
   | (refine zav rfl 29 _ rfl (.agg IC.toArray) _ rfl (uh HBS) ?_;rw[← uh HW5]))
  refine bodyPost_ret (v := .tuple #[.slice (some ⟨w3.heap.size,0,none⟩) 1 1,.int .i64 0]) (by simp[results,Tryz.results91,go_sem]) rfl ?_
  refine ⟨_,0,rfl,(uh HCC).symm,?_,uh HG5⟩
  rw[uh HLL]
  simp only[List.length_cons,List.length_nil,List.flatMap_cons,List.flatMap_nil,List.append_nil,Nat.zero_add]
  rw[← uh HIE]
  exact za7 (uh HO5) (uh HS3)
 ·have hy0:y=11:=by rw[uh HY,h11]
  subst hy0
  have hc:zas 4 d=11:=by rw[uh HK1,h11]
  have HCC:=hide hc
  clear hc h11
  go_wp2_with (first
   | (refine wpList_store_row rfl 126 _ _ rfl (w.heap.size+1) C.toArray rfl rfl _ _ (uh HBP) (uh HIC) (uh HZC) (uh HCO) ?_;rw[← uh HW3])
   | (refine wpList_load_mid rfl 33 _ rfl (w.heap.size+1) 0 rfl IC _ hrT Tryz.underlying33 rfl (uh HII) ?_;clear hrT)
   | (refine zav rfl 29 _ rfl (.agg IC.toArray) _ rfl (uh HBS) ?_;rw[← uh HW5]))
  refine bodyPost_ret (v := .tuple #[.slice none 0 0,.int .i64 11]) (by simp[results,Tryz.results91,go_sem]) rfl ?_
  exact zdq.bad (uh HCC) (by decide) (uh HG5)
theorem zjo (w:World) (k:Int) (ao:Option Addr) (c:Nat) (d:List UInt8) (hb:Bts w ao c d):Calls Tryz.prog 91 #[.agg #[.int .i64 k,.slice ao d.length c]] w fun e w'=>zdq w w' k d e:=by
 by_cases hk:k<1∨4<k
 ·exact zpy w k hk ao c d
 ·by_cases hd:16384<d.length
  ·exact zpz w k (by omega) (by omega) ao c d hd
  ·have h5:k=1∨k=2∨k=3∨k=4:=by omega
   rcases h5 with rfl | rfl | rfl | rfl
   ·exact zm0 w ao c d (by omega)
   ·exact zm1 w ao c d hb (by omega)
   ·exact zp0 w ao c d hb (by omega)
   ·exact zp1 w ao c d hb (by omega)
theorem zlo (w:World) (k:Int) (ao:Option Addr) (c:Nat) (d:List UInt8) (hb:Bts w ao c d):Calls Tryz.prog 63 #[.agg #[.int .i64 k,.slice ao d.length c]] w fun e w'=>e = .returned (.int .i64 (zas k d))∧w.grownBy w' none:=by
 obtain ⟨n,hn⟩:∃ n,n=d.length:=⟨_,rfl⟩
 have g0:w.grownBy (w.alloc (.cells #[.int .i64 k,.slice ao n c] 42)) none:=zag (zaa _ _) _
 have cl:=zjo (w.alloc (.cells #[.int .i64 k,.slice ao n c] 42)) k ao c d (hb.kept g0 (fun _ e=>by cases e))
 rw[← hn] at cl ⊢
 obtain ⟨Y,hY⟩:∃ y,y=zas k d:=⟨_,rfl⟩
 rw[← hY]
 have HY:=hide hY
 clear hn hb hY
 go_enter Tryz.func63,Tryz.ntmps63
 go_wp2_with fail
 refine cl.mono ?_
 rintro e w2 ⟨v,y,rfl,hy,_,g2⟩
 rw[hy,← uh HY]
 clear hy cl
 go_wp2
 go_ret
 exact ⟨rfl,tn g0 g2⟩
theorem zp2 (w:World) (x:UInt8):∃ W,W=w.alloc (.cells #[.int .u8 ((x.toNat:Nat):Int)] 5)∧Bts W (some ⟨w.heap.size,0,none⟩) 1 [x]∧w.grownBy W none :=
 ⟨_,rfl,zc7 (l:=[x]) (zak (Blk.new w 5 [bv x])) (by show 1≤maxLen;decide),zag (zaa _ _) _⟩
theorem zwd (k:Int):IntKind.u8.wrap k=(((UInt8.ofInt k).toNat:Nat):Int):=by
 rw[IntKind.wrap_u8]
 unfold UInt8.ofInt
 rw[UInt8.toNat_ofNat']
 omega
theorem zuz (w:World) (k:Int) (ao:Option Addr) (c:Nat) (d:List UInt8) (hb:Bts w ao c d) (hd:d.length≤35184372088832):Calls Tryz.prog 65 #[.agg #[.int .i64 k,.slice ao d.length c]] w fun e w'=>∃ v,e = .returned v∧NewB w w' v (putL k d)∧w.grownBy w' none:=by
 obtain ⟨n,hn⟩:∃ n,n=d.length:=⟨_,rfl⟩
 obtain ⟨W0,hW0,hB0,g0⟩:∃ W1,W1=w.alloc (.cells #[.int .i64 k,.slice ao n c] 42)∧Blk W1 w.heap.size 42 [.int .i64 k,.slice ao n c]∧w.grownBy W1 none:=zaf w _ _
 obtain ⟨W1,hW1,hb1,g1⟩:=zp2 W0 (UInt8.ofInt k)
 have hcv:=zwd k
 have cs:=zor W1 _ ao 1 c [UInt8.ofInt k] d hb1 (hb.kept (tn g0 g1) (fun _ e=>by cases e)) (by simp;omega)
 rw[show (([UInt8.ofInt k]:List UInt8)).length=1 from rfl,← hn] at cs
 rw[← hn]
 have hput:putL k d=[UInt8.ofInt k]++layS d:=rfl
 rw[← hput] at cs
 obtain ⟨P,hP⟩:∃ P,P=putL k d:=⟨_,rfl⟩
 rw[← hP] at cs ⊢
 obtain ⟨z,hz⟩:∃ z:Int,z=(((UInt8.ofInt k).toNat:Nat):Int):=⟨_,rfl⟩
 rw[← hz] at hcv hW1
 have hs0:W0.heap.size=w.heap.size+1:=by rw[hW0];simp
 rw[hs0] at cs
 have hW:W1=(w.alloc (.cells #[.int .i64 k,.slice ao n c] 42)).alloc (.cells #[.int .u8 z] 5):=by rw[hW1,hW0]
 have c1:=(hB0.kept g1 (by simp)).cell 1
 simp only[List.getElem?_cons_zero,List.getElem?_cons_succ] at c1
 have HW:=hide hW
 have G1:=tn g0 g1
 clear hW hW1 hW0 hz hP hput hb hb1 hB0 g0 g1 hs0 hd hn
 go_enter Tryz.func65,Tryz.ntmps65
 go_wp2_with (rw[← uh HW])
 refine cs.mono ?_
 rintro e w2 ⟨v2,rfl,hN2,g2⟩
 have HN:=hide hN2
 clear cs hN2 c1
 go_wp2
 go_ret
 exact ⟨_,rfl,NewB.later (uh HN) G1.size,tn G1 g2⟩
theorem zd6 {P:Program} {fn:Func} {p u x:Tmp} {ty:TypeId} (h:fn.results = #[.cell p ty,.tmp u,.tmp x]) (tmps:Array Value) (w:World) (g:Nat) (t:TypeId) (cs:Array Value) (fr:Nat × Nat) (d:TypeDesc)
  (hp:tmps.getD p undef = .pointer (some ⟨g,0,none⟩)) (hg:w.heap[g]? = some (.cells cs t fr))
  (hu:P.underlying ty=some d) (hd:(match d with | .struct _ | .array _ _=>true | _=>false)=true) (hi:(P.info? ty).map (·.size)=some cs.size) :
  (results fn tmps).run P w = .ok (.tuple #[.agg cs,tmps.getD u undef,tmps.getD x undef]) w:=by
 have key:(results fn tmps).run P w=((asAddr (tmps.getD p undef)).run P w).andThen fun a w1=>((loadVar ty a).run P w1).andThen fun v w2 => .ok (.tuple #[v,tmps.getD u undef,tmps.getD x undef]) w2:=by
  simp only[results,h]
  simp[Sem.run_bind,Result.andThen]
 rw[key,hp]
 simp[asAddr,run_loadVar_row w g t ty cs fr d hg hu hd hi]
theorem zir {P:Program} {fn:Func} {p u x:Tmp} {ty:TypeId} (h:fn.results = #[.tmp u,.cell p ty,.tmp x]) (tmps:Array Value) (w:World) (g:Nat) (t:TypeId) (cs:Array Value) (fr:Nat × Nat) (d:TypeDesc)
  (hp:tmps.getD p undef = .pointer (some ⟨g,0,none⟩)) (hg:w.heap[g]? = some (.cells cs t fr))
  (hu:P.underlying ty=some d) (hd:(match d with | .struct _ | .array _ _=>true | _=>false)=true) (hi:(P.info? ty).map (·.size)=some cs.size) :
  (results fn tmps).run P w = .ok (.tuple #[tmps.getD u undef,.agg cs,tmps.getD x undef]) w:=by
 have key:(results fn tmps).run P w=((asAddr (tmps.getD p undef)).run P w).andThen fun a w1=>((loadVar ty a).run P w1).andThen fun v w2 => .ok (.tuple #[tmps.getD u undef,v,tmps.getD x undef]) w2:=by
  simp only[results,h]
  simp[Sem.run_bind,Result.andThen]
 rw[key,hp]
 simp[asAddr,run_loadVar_row w g t ty cs fr d hg hu hd hi]
theorem zdr {P:Program} {ops:Array Oper} {S:World→Prop} {op:Oper} {a:Act} (hw:Region.wanted op (yielded ops a.tmps)=true) (t t' : TypeId) (x y:Operand) (ho:op.op = .binOp .neq t x y t') (X Z:Array Value) (r:Bool)
  (hx:a.eval x = .agg X) (hy:a.eval y = .agg Z) (hm:P.eqGuardType P.depth t=false) (hq:∀ w:World,(binOp .neq t (.agg X) (.agg Z)).run P w = .ok (.bool r) w):YieldsIf P ops S op (.bool r) a :=
 .inl ⟨hw,fun w _=>by
  unfold execOp
  simp only[ho,hx,hy,Sem.run_bind,run_eqGuard_agg w .neq t x y X Z hm,hq,Result.andThen_ok]
  rfl⟩
end Go.Proofs.YthhnfloohbdaiaaGreatDoor
