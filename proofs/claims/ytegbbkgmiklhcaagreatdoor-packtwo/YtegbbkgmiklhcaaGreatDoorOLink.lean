/- Lemmas. -/
import Derived.Test.YtegbbkgmiklhcaaGreatDoorOTell
import Derived.Laws.AppendOwnNone
namespace Go.Proofs.YtegbbkgmiklhcaaGreatDoor
open Go.RowKit
set_option maxRecDepth 100000
set_option maxHeartbeats 2000000 in
theorem zhm (w:World) (k:Int) (ao:Option Addr) (c:Nat) (d:List UInt8) (hb:Bts w ao c d) (hd:d.length≤100000) :
  Calls Tryz.prog 81 #[.agg #[.int .i64 k,.slice ao d.length c]] w fun e w'=>∃ po pc y,e = .returned (.tuple #[.agg (chC (telC k d).2 po pc).toArray,.int .i64 y])∧y=(telC k d).1∧w'.ownsRow w.heap.size 47 32 (.slice po (telC k d).2.pars.length pc) (telC k d).2.pars.length ((telC k d).2.pars.flatMap (·.map bv))∧w.grownBy w' none:=by
 obtain ⟨n,hn⟩:∃ n,n=d.length:=⟨_,rfl⟩
 obtain ⟨Z,hZ⟩:∃ Z:List Value,Z=chC zdz none 0:=⟨_,rfl⟩
 have hzv:∀ w,(zeroValue 156).run Tryz.prog w = .ok (.agg Z.toArray) w:=fun w=>by rw[hZ];kernel_rfl
 have hzb:Tryz.prog.built 156 []=some Z.toArray:=by rw[hZ];kernel_rfl
 have hZl:Z.length=36:=by rw[hZ];rfl
 have hZo:Z.toArray.all (·.oneCell')=true:=by rw[hZ];exact all_oneCell_toArray (zgo _ _ _)
 obtain ⟨W0,hW0,hB0,g0⟩:∃ W1,W1=w.alloc (.cells #[.int .i64 k,.slice ao n c] 42)∧Blk W1 w.heap.size 42 [.int .i64 k,.slice ao n c]∧w.grownBy W1 none:=zah w _ _
 obtain ⟨Wr,hWr,hBr,gr⟩:∃ W1,W1=W0.alloc (.cells Z.toArray 156)∧Blk W1 W0.heap.size 156 Z∧W0.grownBy W1 none:=zah W0 _ _
 obtain ⟨W1,hW1,hB1,g1⟩:∃ W1,W1=Wr.alloc (.cells Z.toArray 156)∧Blk W1 Wr.heap.size 156 Z∧Wr.grownBy W1 none:=zah Wr _ _
 have hs0:W0.heap.size=w.heap.size+1:=by rw[hW0];simp
 have hsr:Wr.heap.size=w.heap.size+2:=by rw[hWr,hW0];simp
 rw[hs0] at hBr
 rw[hsr] at hB1
 have hBo:=(hB0.kept gr (by simp)).kept g1 (by simp)
 have hBr1:=hBr.kept g1 (by simp)
 have c0:=hBo.cell 0
 have c1:=hBo.cell 1
 simp only[List.getElem?_cons_zero,List.getElem?_cons_succ] at c0 c1
 have G1:=tn (tn g0 gr) g1
 have hs1:W1.heap.size=w.heap.size+3:=by rw[hW1,hWr,hW0];simp
 have hW:W1=((w.alloc (.cells #[.int .i64 k,.slice ao n c] 42)).alloc (.cells Z.toArray 156)).alloc (.cells Z.toArray 156):=by rw[hW1,hWr,hW0]
 have HW:=hide hW
 have hiZ:(Tryz.prog.info? 156).map (·.size)=some Z.toArray.size:=by rw[show Z.toArray.size=36 by simpa using hZl];exact zbs
 obtain ⟨HIZ,HZB,HZO,HBR,HZ,HZL⟩:=zh6 hiZ hzb hZo hBr1 hZ hZl
 have HG1:=hide G1
 clear hiZ hzb hZo
 by_cases hk:k=3
 ·subst hk
  have cf:=znz w W1 G1 ao c d hb (by omega) (w.heap.size+2) 3 (zc6 (zbi d)) (fun V=>zl6 w (w.heap.size+2) (zbi d) V∧Blk V (w.heap.size+1) 156 Z) (fun a b h g=>⟨h.1.none g,h.2.kept g (by simp)⟩)
   (fun V rb bc gu gw hrb hRd hbk=>(znw w V rb (w.heap.size+2) d (by omega) _ hZl gu (by omega) (by omega) (by omega) hRd (hB1.kept gw (by simp)) W1.heap.size bc hbk (by omega) (by omega) (w.heap.size+1) _ Z (hBr1.kept gw (by simp)) (by omega) (by omega)))
  rw[← hn] at cf
  rw[← hn]
  have hT:telC 3 d=(if zc6 (zbi d)=(0,d) then (0,zbi d) else (11,zdz)):=by simp[telC]
  obtain ⟨t,ht⟩:∃ t,t=telC 3 d:=⟨_,rfl⟩
  rw[← ht] at hT ⊢
  obtain ⟨y,hy⟩:∃ y:Int,y=(if zc6 (zbi d)=(0,d) then 0 else 11):=⟨_,rfl⟩
  rw[← hy] at cf
  have hyc:(y=0∧t=(0,zbi d))∨(y=11∧t=(11,zdz)):=by
   by_cases hq:zc6 (zbi d)=(0,d)
   ·left;rw[hT,hy,if_pos hq,if_pos hq];exact ⟨rfl,rfl⟩
   ·right;rw[hT,hy,if_neg hq,if_neg hq];exact ⟨rfl,rfl⟩
  have hok:=zg0 d
  clear hW1 hW0 hW hB0 hB1 hBo g0 g1 hT hy hn ht hs0 hs1 hb hd hWr hBr hBr1 gr hsr hZ hZl G1
  rcases hyc with ⟨rfl,ht⟩ | ⟨rfl,ht⟩
  ·have HT:=hide ht
   clear ht
   go_enter Tryz.func81,Tryz.ntmps81
   go_wp2_with (rw[← uh HW])
   refine cf.mono ?_
   rintro e w2 ⟨rfl,⟨⟨po,pc,hB2,ho2⟩,hB3⟩,g2⟩
   obtain ⟨C,hC⟩:∃ C,C=chC (zbi d) po pc:=⟨_,rfl⟩
   rw[← hC] at hB2
   have hCl:C.length=36:=by rw[hC];exact zgn _ _ _ hok.1
   have hCo:C.toArray.all (·.oneCell')=true:=by rw[hC];exact all_oneCell_toArray (zgo _ _ _)
   have hr2:=zal hB2
   have hiC:(Tryz.prog.info? 156).map (·.size)=some C.length:=by rw[hCl];exact zbs
   have hiC2:(Tryz.prog.info? 156).map (·.size)=some C.toArray.size:=by simpa using hiC
   have hZC:Z.toArray.size=C.toArray.size:=by have:=uh HZL;simp[this,hCl]
   obtain ⟨HIC,HIC2,HZC,HCO,HC,HB2⟩:=zh6 hiC hiC2 hZC hCo hC hB2
   clear cf c0 c1 hiC hiC2 hZC hCo hC hCl hB2 hok
   go_wp2_with (first
    | (refine wpList_load_mid rfl 156 _ rfl (w.heap.size+2) 0 rfl C _ hr2 Tryz.underlying156 rfl (uh HIC) ?_;clear hr2)
    | (refine wpList_store_row rfl 156 _ _ rfl (w.heap.size+1) C.toArray rfl rfl _ _ hB3 (uh HIC2) (uh HZC) (uh HCO) ?_))
   refine bodyPost_ret (zag rfl _ _ _ _ _ _ _ rfl (hB3.row C) Tryz.underlying156 rfl (uh HIC2)) rfl ?_
   have gF:=zaq g2 C.toArray (Or.inl (Nat.le_succ w.heap.size))
   rw[uh HT]
   rw[uh HC] at gF ⊢
   exact ⟨po,pc,0,rfl,rfl,zby ho2 hB3 (by decide) _,gF⟩
  ·have HT:=hide ht
   clear ht
   go_enter Tryz.func81,Tryz.ntmps81
   go_wp2_with (rw[← uh HW])
   refine cf.mono ?_
   rintro e w2 ⟨rfl,⟨hkp,hB3⟩,g2⟩
   clear cf hkp c0 c1 hok
   go_wp2_with (first
    | (refine za3 rfl 156 _ rfl Z.toArray ?hbs ?_)
    | (refine wpList_store_row rfl 156 _ _ rfl (w.heap.size+1) Z.toArray rfl rfl _ _ hB3 (uh HIZ) rfl (uh HZO) ?_))
   case hbs=>simpa using uh HZB
   refine bodyPost_ret (zag rfl _ _ _ _ _ _ _ rfl (hB3.row Z) Tryz.underlying156 rfl (uh HIZ)) rfl ?_
   have gF:=zaq g2 Z.toArray (Or.inl (Nat.le_succ w.heap.size))
   rw[uh HT]
   rw[uh HZ] at gF ⊢
   exact ⟨none,0,_,rfl,rfl,World.ownsRow_nil _ _ _ _,gF⟩
 ·have cf:=zfk W1 k 3 (by simpa using hk) ao n c (.func (.func 119) #[] #[.pointer (some ⟨w.heap.size+2,0,none⟩)])
  rw[← hn]
  have ht:telC k d=(2,zdz):=by simp[telC,hk]
  have HT:=hide ht
  clear hW1 hW0 hW hB0 hB1 hBo g0 g1 hn ht hs0 hs1 hb hd hWr hBr hBr1 gr hsr hZ hZl G1
  go_enter Tryz.func81,Tryz.ntmps81
  go_wp2_with (rw[← uh HW])
  refine cf.mono ?_
  rintro e w2 ⟨rfl,g2a⟩
  have g2:=tn (uh HG1) g2a
  have hB3:=(uh HBR).kept g2a (by simp)
  clear cf c0 c1
  go_wp2_with (first
   | (refine za3 rfl 156 _ rfl Z.toArray ?hbs ?_)
   | (refine wpList_store_row rfl 156 _ _ rfl (w.heap.size+1) Z.toArray rfl rfl _ _ hB3 (uh HIZ) rfl (uh HZO) ?_))
  case hbs=>simpa using uh HZB
  refine bodyPost_ret (zag rfl _ _ _ _ _ _ _ rfl (hB3.row Z) Tryz.underlying156 rfl (uh HIZ)) rfl ?_
  have gF:=zaq g2 Z.toArray (Or.inl (Nat.le_succ w.heap.size))
  rw[uh HT]
  rw[uh HZ] at gF ⊢
  exact ⟨none,0,_,rfl,rfl,World.ownsRow_nil _ _ _ _,gF⟩
set_option maxHeartbeats 2000000 in
theorem zkr (w:World) (k:Int) (ao:Option Addr) (c:Nat) (d:List UInt8) (hb:Bts w ao c d) (hd:d.length≤100000) :
  Calls Tryz.prog 82 #[.agg #[.int .i64 k,.slice ao d.length c]] w fun e w'=>∃ y,e = .returned (.tuple #[.agg (mkC (telM k d).2).toArray,.int .i64 y])∧y=(telM k d).1∧w.grownBy w' none:=by
 obtain ⟨n,hn⟩:∃ n,n=d.length:=⟨_,rfl⟩
 obtain ⟨Z,hZ⟩:∃ Z:List Value,Z=mkC zen:=⟨_,rfl⟩
 have hzv:∀ w,(zeroValue 160).run Tryz.prog w = .ok (.agg Z.toArray) w:=fun w=>by rw[hZ];kernel_rfl
 have hzb:Tryz.prog.built 160 []=some Z.toArray:=by rw[hZ];kernel_rfl
 have hZl:Z.length=34:=by rw[hZ];rfl
 have hZo:Z.toArray.all (·.oneCell')=true:=by rw[hZ];exact all_oneCell_toArray (zgp _)
 obtain ⟨W0,hW0,hB0,g0⟩:∃ W1,W1=w.alloc (.cells #[.int .i64 k,.slice ao n c] 42)∧Blk W1 w.heap.size 42 [.int .i64 k,.slice ao n c]∧w.grownBy W1 none:=zah w _ _
 obtain ⟨Wr,hWr,hBr,gr⟩:∃ W1,W1=W0.alloc (.cells Z.toArray 160)∧Blk W1 W0.heap.size 160 Z∧W0.grownBy W1 none:=zah W0 _ _
 obtain ⟨W1,hW1,hB1,g1⟩:∃ W1,W1=Wr.alloc (.cells Z.toArray 160)∧Blk W1 Wr.heap.size 160 Z∧Wr.grownBy W1 none:=zah Wr _ _
 have hs0:W0.heap.size=w.heap.size+1:=by rw[hW0];simp
 have hsr:Wr.heap.size=w.heap.size+2:=by rw[hWr,hW0];simp
 rw[hs0] at hBr
 rw[hsr] at hB1
 have hBo:=(hB0.kept gr (by simp)).kept g1 (by simp)
 have hBr1:=hBr.kept g1 (by simp)
 have c0:=hBo.cell 0
 have c1:=hBo.cell 1
 simp only[List.getElem?_cons_zero,List.getElem?_cons_succ] at c0 c1
 have G1:=tn (tn g0 gr) g1
 have hs1:W1.heap.size=w.heap.size+3:=by rw[hW1,hWr,hW0];simp
 have hW:W1=((w.alloc (.cells #[.int .i64 k,.slice ao n c] 42)).alloc (.cells Z.toArray 160)).alloc (.cells Z.toArray 160):=by rw[hW1,hWr,hW0]
 have HW:=hide hW
 have hiZ:(Tryz.prog.info? 160).map (·.size)=some Z.toArray.size:=by rw[show Z.toArray.size=34 by simpa using hZl];exact zex
 obtain ⟨HIZ,HZB,HZO,HBR,HZ,HZL⟩:=zh6 hiZ hzb hZo hBr1 hZ hZl
 have HG1:=hide G1
 clear hiZ hzb hZo
 by_cases hk:k=4
 ·subst hk
  have cf:=zn0 w W1 G1 ao c d hb (by omega) (w.heap.size+2) 4 (zdn (zb2 d)) (fun V=>zkp (w.heap.size+2) (zb2 d) V∧Blk V (w.heap.size+1) 160 Z) (fun a b h g=>⟨h.1.none g,h.2.kept g (by simp)⟩)
   (fun V rb bc gu gw hrb hRd hbk=>(znx w V rb (w.heap.size+2) d (by omega) _ hZl gu (by omega) (by omega) (by omega) hRd (hB1.kept gw (by simp)) W1.heap.size bc hbk (by omega) (by omega) (w.heap.size+1) _ Z (hBr1.kept gw (by simp)) (by omega) (by omega)))
  rw[← hn] at cf
  rw[← hn]
  have hT:telM 4 d=(if zdn (zb2 d)=(0,d) then (0,zb2 d) else (11,zen)):=by simp[telM]
  obtain ⟨t,ht⟩:∃ t,t=telM 4 d:=⟨_,rfl⟩
  rw[← ht] at hT ⊢
  obtain ⟨y,hy⟩:∃ y:Int,y=(if zdn (zb2 d)=(0,d) then 0 else 11):=⟨_,rfl⟩
  rw[← hy] at cf
  have hyc:(y=0∧t=(0,zb2 d))∨(y=11∧t=(11,zen)):=by
   by_cases hq:zdn (zb2 d)=(0,d)
   ·left;rw[hT,hy,if_pos hq,if_pos hq];exact ⟨rfl,rfl⟩
   ·right;rw[hT,hy,if_neg hq,if_neg hq];exact ⟨rfl,rfl⟩
  have hok:=zg1 d
  clear hW1 hW0 hW hB0 hB1 hBo g0 g1 hT hy hn ht hs0 hs1 hb hd hWr hBr hBr1 gr hsr hZ hZl G1
  rcases hyc with ⟨rfl,ht⟩ | ⟨rfl,ht⟩
  ·have HT:=hide ht
   clear ht
   go_enter Tryz.func82,Tryz.ntmps82
   go_wp2_with (rw[← uh HW])
   refine cf.mono ?_
   rintro e w2 ⟨rfl,⟨hB2,hB3⟩,g2⟩
   obtain ⟨C,hC⟩:∃ C,C=mkC (zb2 d):=⟨_,rfl⟩
   unfold zkp at hB2
   rw[← hC] at hB2
   have hCl:C.length=34:=by rw[hC];exact zie _ hok.1
   have hCo:C.toArray.all (·.oneCell')=true:=by rw[hC];exact all_oneCell_toArray (zgp _)
   have hr2:=zal hB2
   have hiC:(Tryz.prog.info? 160).map (·.size)=some C.length:=by rw[hCl];exact zex
   have hiC2:(Tryz.prog.info? 160).map (·.size)=some C.toArray.size:=by simpa using hiC
   have hZC:Z.toArray.size=C.toArray.size:=by have:=uh HZL;simp[this,hCl]
   obtain ⟨HIC,HIC2,HZC,HCO,HC,HB2⟩:=zh6 hiC hiC2 hZC hCo hC hB2
   clear cf c0 c1 hiC hiC2 hZC hCo hC hCl hB2 hok
   go_wp2_with (first
    | (refine wpList_load_mid rfl 160 _ rfl (w.heap.size+2) 0 rfl C _ hr2 Tryz.underlying160 rfl (uh HIC) ?_;clear hr2)
    | (refine wpList_store_row rfl 160 _ _ rfl (w.heap.size+1) C.toArray rfl rfl _ _ hB3 (uh HIC2) (uh HZC) (uh HCO) ?_))
   refine bodyPost_ret (zag rfl _ _ _ _ _ _ _ rfl (hB3.row C) Tryz.underlying160 rfl (uh HIC2)) rfl ?_
   have gF:=zaq g2 C.toArray (Or.inl (Nat.le_succ w.heap.size))
   rw[uh HT]
   rw[uh HC] at gF ⊢
   exact ⟨0,rfl,rfl,gF⟩
  ·have HT:=hide ht
   clear ht
   go_enter Tryz.func82,Tryz.ntmps82
   go_wp2_with (rw[← uh HW])
   refine cf.mono ?_
   rintro e w2 ⟨rfl,⟨hkp,hB3⟩,g2⟩
   clear cf hkp c0 c1 hok
   go_wp2_with (first
    | (refine za3 rfl 160 _ rfl Z.toArray ?hbs ?_)
    | (refine wpList_store_row rfl 160 _ _ rfl (w.heap.size+1) Z.toArray rfl rfl _ _ hB3 (uh HIZ) rfl (uh HZO) ?_))
   case hbs=>simpa using uh HZB
   refine bodyPost_ret (zag rfl _ _ _ _ _ _ _ rfl (hB3.row Z) Tryz.underlying160 rfl (uh HIZ)) rfl ?_
   have gF:=zaq g2 Z.toArray (Or.inl (Nat.le_succ w.heap.size))
   rw[uh HT]
   rw[uh HZ] at gF ⊢
   exact ⟨_,rfl,rfl,gF⟩
 ·have cf:=zfk W1 k 4 (by simpa using hk) ao n c (.func (.func 122) #[] #[.pointer (some ⟨w.heap.size+2,0,none⟩)])
  rw[← hn]
  have ht:telM k d=(2,zen):=by simp[telM,hk]
  have HT:=hide ht
  clear hW1 hW0 hW hB0 hB1 hBo g0 g1 hn ht hs0 hs1 hb hd hWr hBr hBr1 gr hsr hZ hZl G1
  go_enter Tryz.func82,Tryz.ntmps82
  go_wp2_with (rw[← uh HW])
  refine cf.mono ?_
  rintro e w2 ⟨rfl,g2a⟩
  have g2:=tn (uh HG1) g2a
  have hB3:=(uh HBR).kept g2a (by simp)
  clear cf c0 c1
  go_wp2_with (first
   | (refine za3 rfl 160 _ rfl Z.toArray ?hbs ?_)
   | (refine wpList_store_row rfl 160 _ _ rfl (w.heap.size+1) Z.toArray rfl rfl _ _ hB3 (uh HIZ) rfl (uh HZO) ?_))
  case hbs=>simpa using uh HZB
  refine bodyPost_ret (zag rfl _ _ _ _ _ _ _ rfl (hB3.row Z) Tryz.underlying160 rfl (uh HIZ)) rfl ?_
  have gF:=zaq g2 Z.toArray (Or.inl (Nat.le_succ w.heap.size))
  rw[uh HT]
  rw[uh HZ] at gF ⊢
  exact ⟨_,rfl,rfl,gF⟩
def zcc (w w' : World) (k:Int) (d:List UInt8) (e:Ending):Prop:=∃ v y,e = .returned (.tuple #[v,.int .i64 y])∧y=zar k d∧w'.ownsRow w.heap.size 47 32 v (zb8 k d).length ((zb8 k d).flatMap (·.map bv))∧w.grownBy w' none
theorem zcc.bad {w w' : World} {k:Int} {d:List UInt8} {y:Int} (hy:zar k d=y) (h0:y≠0) (g:w.grownBy w' none):zcc w w' k d (.returned (.tuple #[.slice none 0 0,.int .i64 y])):=by
 have hl:zb8 k d=[]:=by unfold zb8;rw[hy,if_pos h0]
 exact ⟨_,y,rfl,hy.symm,by rw[hl];exact World.ownsRow_nil _ _ _ _,g⟩
theorem zqm (d:List UInt8) (h:d.length≤16384):zar 2 d=(telT 2 d).1∧((telT 2 d).1=0→zb8 2 d=(telT 2 d).2.map (·.id))∧((telT 2 d).1=0∨(telT 2 d).1=11∧(telT 2 d).2=[]):=by
 have h1:¬ 16384<d.length:=by omega
 have hc:zar 2 d=errO (zfd d):=by simp[zar,h1]
 by_cases hq:zbr (zb6 d)=(0,d)
 ·have e1:zfd d=some (zb6 d):=by simp[zfd,hq]
  have e2:telT 2 d=(0,zb6 d):=by simp[telT,hq]
  refine ⟨by rw[hc,e1,e2];rfl,fun _ => ?_,by rw[e2];exact Or.inl rfl⟩
  unfold zb8
  rw[hc,e1,e2]
  simp[errO]
 ·have e1:zfd d=none:=by simp[zfd,hq]
  have e2:telT 2 d=(11,[]):=by simp[telT,hq]
  refine ⟨by rw[hc,e1,e2];rfl,fun h => ?_,by rw[e2];exact Or.inr ⟨rfl,rfl⟩⟩
  rw[e2] at h
  exact absurd h (by decide)
theorem zqn (d:List UInt8) (h:d.length≤16384):zar 3 d=(telC 3 d).1∧((telC 3 d).1=0→zb8 3 d=(telC 3 d).2.tree::(telC 3 d).2.pars)∧((telC 3 d).1=0∨(telC 3 d).1=11)∧(telC 3 d).2.tree.length=32∧(∀ x∈(telC 3 d).2.pars,x.length=32)∧(telC 3 d).2.pars.length≤4:=by
 have h1:¬ 16384<d.length:=by omega
 have hc:zar 3 d=errO (zhf d):=by simp[zar,h1]
 by_cases hq:zc6 (zbi d)=(0,d)
 ·have e1:zhf d=some (zbi d):=by simp[zhf,hq]
  have e2:telC 3 d=(0,zbi d):=by simp[telC,hq]
  have hok:=zg0 d
  refine ⟨by rw[hc,e1,e2];rfl,fun _ => ?_,by rw[e2];exact Or.inl rfl,by rw[e2];exact hok.1,by rw[e2];exact hok.2.1,by rw[e2];exact hok.2.2.1⟩
  unfold zb8
  rw[hc,e1,e2]
  simp[errO]
 ·have e1:zhf d=none:=by simp[zhf,hq]
  have e2:telC 3 d=(11,zdz):=by simp[telC,hq]
  refine ⟨by rw[hc,e1,e2];rfl,fun h => ?_,by rw[e2];exact Or.inr rfl,by rw[e2];rfl,by rw[e2];intro x hx;simp[zdz] at hx,by rw[e2];exact Nat.zero_le _⟩
  rw[e2] at h
  exact absurd h (by decide)
theorem zqo (d:List UInt8) (h:d.length≤16384):zar 4 d=(telM 4 d).1∧((telM 4 d).1=0→zb8 4 d=[(telM 4 d).2.target])∧((telM 4 d).1=0∨(telM 4 d).1=11)∧(telM 4 d).2.target.length=32:=by
 have h1:¬ 16384<d.length:=by omega
 have hc:zar 4 d=errO (zid d):=by simp[zar,h1]
 by_cases hq:zdn (zb2 d)=(0,d)
 ·have e1:zid d=some (zb2 d):=by simp[zid,hq]
  have e2:telM 4 d=(0,zb2 d):=by simp[telM,hq]
  refine ⟨by rw[hc,e1,e2];rfl,fun _ => ?_,by rw[e2];exact Or.inl rfl,by rw[e2];exact (zg1 d).1⟩
  unfold zb8
  rw[hc,e1,e2]
  simp[errO]
 ·have e1:zid d=none:=by simp[zid,hq]
  have e2:telM 4 d=(11,zen):=by simp[telM,hq]
  refine ⟨by rw[hc,e1,e2];rfl,fun h => ?_,by rw[e2];exact Or.inr rfl,by rw[e2];rfl⟩
  rw[e2] at h
  exact absurd h (by decide)
theorem zks (w:World) (k:Int) (hk:k<1∨4<k) (ao:Option Addr) (c:Nat) (d:List UInt8):Calls Tryz.prog 63 #[.agg #[.int .i64 k,.slice ao d.length c]] w fun e w'=>zcc w w' k d e:=by
 have hc:zar k d=2:=by unfold zar;rw[if_pos hk]
 have HC:=hide hc
 obtain ⟨n,hn⟩:∃ n,n=d.length:=⟨_,rfl⟩
 rw[← hn]
 clear hc hn
 by_cases h1:k<1
 ·have g0:w.grownBy (w.alloc (.cells #[.int .i64 k,.slice ao n c] 42)) none:=zai (zab _ _) _
  clear hk
  go_enter Tryz.func63,Tryz.ntmps63
  go_wp2
  refine bodyPost_ret (v := .tuple #[.slice none 0 0,.int .i64 2]) (by simp[results,Tryz.results63,go_sem]) rfl ?_
  exact zcc.bad (uh HC) (by decide) g0
 ·have h2:4<k:=by omega
  have g0:w.grownBy (w.alloc (.cells #[.int .i64 k,.slice ao n c] 42)) none:=zai (zab _ _) _
  clear hk
  go_enter Tryz.func63,Tryz.ntmps63
  go_wp2
  refine bodyPost_ret (v := .tuple #[.slice none 0 0,.int .i64 2]) (by simp[results,Tryz.results63,go_sem]) rfl ?_
  exact zcc.bad (uh HC) (by decide) g0
theorem zkt (w:World) (k:Int) (h1:¬ k<1) (h4:¬ 4<k) (ao:Option Addr) (c:Nat) (d:List UInt8) (hd:16384<d.length):Calls Tryz.prog 63 #[.agg #[.int .i64 k,.slice ao d.length c]] w fun e w'=>zcc w w' k d e:=by
 have hc:zar k d=3:=by unfold zar;rw[if_neg (by omega),if_pos hd]
 have HC:=hide hc
 obtain ⟨n,hn⟩:∃ n,n=d.length:=⟨_,rfl⟩
 have hd2:(16384:Int)<(n:Int):=by omega
 rw[← hn]
 clear hc hn hd
 have g0:w.grownBy (w.alloc (.cells #[.int .i64 k,.slice ao n c] 42)) none:=zai (zab _ _) _
 go_enter Tryz.func63,Tryz.ntmps63
 go_wp2
 refine bodyPost_ret (v := .tuple #[.slice none 0 0,.int .i64 3]) (by simp[results,Tryz.results63,go_sem]) rfl ?_
 exact zcc.bad (uh HC) (by decide) g0
theorem ziq (w:World) (ao:Option Addr) (c:Nat) (d:List UInt8) (hd:d.length≤16384):Calls Tryz.prog 63 #[.agg #[.int .i64 1,.slice ao d.length c]] w fun e w'=>zcc w w' 1 d e:=by
 have hc:zar 1 d=0:=by unfold zar;rw[if_neg (by omega),if_neg (by omega)];rfl
 have hl:zb8 1 d=[]:=by unfold zb8;rw[hc];rfl
 obtain ⟨HC,HL⟩:=zh2 hc hl
 obtain ⟨n,hn⟩:∃ n,n=d.length:=⟨_,rfl⟩
 have hd2:¬ (16384:Int)<(n:Int):=by omega
 rw[← hn]
 clear hc hn hd hl
 have g0:w.grownBy (w.alloc (.cells #[.int .i64 1,.slice ao n c] 42)) none:=zai (zab _ _) _
 go_enter Tryz.func63,Tryz.ntmps63
 go_wp2
 refine bodyPost_ret (v := .tuple #[.slice none 0 0,.int .i64 0]) (by simp[results,Tryz.results63,go_sem]) rfl ?_
 exact ⟨_,0,rfl,(uh HC).symm,by rw[uh HL];exact World.ownsRow_nil _ _ _ _,g0⟩
theorem zcr {w:World} {ops:Array Oper} {rest:List Oper} {o:Oper} {a:Act} {Q:Exit→Act→World→Prop} (hgd:o.guard=none) (s x:Operand)
  (ho:o.op = .call { callee := .builtin .append,args := #[s,x],argTypes := #[59,59] })
  (base:Nat) (v:Value) (n:Nat) (xs:List Value) (hs:a.eval s=v) (hown:w.ownsRow base 47 32 v n xs)
  (ao:Option Addr) (c:Nat) (ps:List (List UInt8)) (hP:Ids w ao c ps) (hx:a.eval x = .slice ao ps.length c) (hn:n+ps.length≤100000) (hbase:base≤w.heap.size)
  (h:∀ v' w',w'.ownsRow base 47 32 v' (n+ps.length) (xs++ps.flatMap (·.map bv))→w.grownBy w' v.ownBlock→wpList Tryz.prog ops Q rest (a.put o.dst v') w'):wpList Tryz.prog ops Q (o::rest) a w:=by
 obtain ⟨i0,hi,hz0,hz1,hz2⟩:=info_parts zgu
 cases ao with
 | none =>
  have hz:=hP.zip rfl
  have hx0:ps=[]:=List.eq_nil_of_length_eq_zero hz.1
  have hc0:=hz.2
  subst hx0 hc0
  exact wpList_append_own_none hgd s x 59 ho base 47 i0 32 Tryz.underlying59 hi v n xs hs hown hx (h v w (by simpa using hown) (zab _ _))
 | some ad =>
  refine wpList_append_own w hgd s x 59 ho base 47 i0 _ 32 32 Tryz.underlying59 hi hz0 hz1 hz2 rfl (by decide) v n xs hs hown ad ps.length c (ps.flatMap (·.map bv)) hx (zcm _ 32 ps (fun x hx=>by simp[hP.ids x hx])) ?_ ?_ (by unfold maxLen;omega) (by omega) hbase (fun v' w' q1 q2 _=>h v' w' q1 q2)
  ·intro j u hu
   have hl:=zcm (fun x:List UInt8=>x.map bv) 32 ps (fun x hx=>by simp[hP.ids x hx])
   have hj:=(List.getElem?_eq_some_iff.1 hu).1
   rw[hl] at hj
   have hq:j / 32<ps.length:=by omega
   have hs2:=hP.shape ad rfl (by omega)
   have hr:=hP.row ad rfl (j / 32) hq
   rw[show j=j / 32*32+j % 32 by omega,zgi (fun x:List UInt8=>x.map bv) 32 ps (fun x hx=>by simp[hP.ids x hx]) (j / 32) (j % 32) hq (by omega)] at hu
   have h5:=hr (j % 32) u hu
   obtain ⟨b,o,sp⟩:=ad
   simp only at hs2 h5
   subst hs2
   rw[Addr.add_lit]
   rw[show o+j=o+j / 32*32+j % 32 by omega]
   exact h5
  ·intro u hu
   obtain ⟨x,_,hx⟩:=List.mem_flatMap.1 hu
   exact zaw _ u hx
end Go.Proofs.YtegbbkgmiklhcaaGreatDoor
