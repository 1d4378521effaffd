/- Lemmas. -/
import Derived.Test.YtegbbkgmiklhcaaGreatDoorOCloT
import Derived.Laws.AppendOwnNone
namespace Go.Proofs.YtegbbkgmiklhcaaGreatDoor
open Go.RowKit
set_option maxRecDepth 100000
def zpe (u:World) (vb:Nat) (c:ChgL) (w:World):Prop:=∃ po pc,Blk w vb 156 (chC c po pc)∧w.ownsRow u.heap.size 47 32 (.slice po c.pars.length pc) c.pars.length (c.pars.flatMap (·.map bv))
theorem zpe.none {u:World} {vb:Nat} {c:ChgL} {a b:World} (h:zpe u vb c a) (g:a.grownBy b none):zpe u vb c b:=by
 obtain ⟨po,pc,h1,h2⟩:=h
 exact ⟨po,pc,h1.kept g (by simp),zbw h2 g (fun x e=>by cases e)⟩
theorem zit (d:List UInt8):(za8 d).tree.length=32∧(∀ x∈(za8 d).pars,x.length=32)∧(za8 d).pars.length≤4∧(za8 d).author.length≤d.length∧(za8 d).text.length≤d.length:=by
 unfold za8
 simp only
 refine ⟨zbh _ _,zrc _ _,?_,?_,?_⟩
 ·rw[zio];exact Nat.min_le_right _ _
 ·refine Nat.le_trans (zbz _ _) (Nat.le_trans (za9 _ _ _) (Nat.le_trans (zeb _ _) (Nat.le_trans (za9 _ _ _) (zca _ _ _))))
 ·refine Nat.le_trans (zbz _ _) (Nat.le_trans (za5 _ _) (Nat.le_trans (za9 _ _ _) (Nat.le_trans (zeb _ _) (Nat.le_trans (za9 _ _ _) (zca _ _ _)))))
set_option maxHeartbeats 2000000 in
theorem zro (u w:World) (rb vb:Nat) (d:List UInt8) (hl:d.length≤1000000) (old:List Value) (ho36:old.length=36) (gu:u.grownBy w none) (hv:u.heap.size≤vb) (hr:u.heap.size≤rb) (hne:rb≠vb) (hR:Rd w rb d 0) (hB:Blk w vb 156 old) (bk:Nat) (bc:List Value) (hbk:Blk w bk 42 bc) (hkr:bk≠rb) (hkv:bk≠vb) (b2:Nat) (t2:TypeId) (cs2:List Value) (hb2:Blk w b2 t2 cs2) (h2r:b2≠rb) (h2v:b2≠vb) :
  Calls Tryz.prog 119 #[.pointer (some ⟨rb,0,none⟩),.pointer (some ⟨vb,0,none⟩)] w fun e w'=>znb u w' 3 (zce (za8 d)) (fun V=>(zpe u vb (za8 d) V∧Blk V b2 t2 cs2)∧Blk V bk 42 bc) e:=by
 have hvl:=hB.lt
 have hbl:=hbk.lt
 have hbl2:=hb2.lt
 have hrl:=hR.lt
 obtain ⟨W1,hW1,hB1,g1⟩:∃ W1,W1=w.alloc (.cells #[.int .i64 0,.slice none 0 0] 42)∧Blk W1 w.heap.size 42 [.int .i64 0,.slice none 0 0]∧w.grownBy W1 none:=zag w _ _
 have cr:=zkp W1 rb d hl (hR.kept g1 (Or.inl rfl))
 obtain ⟨k1,k2,k3,k4,k5⟩:=zit d
 obtain ⟨cm,hcm⟩:∃ c,c=za8 d:=⟨_,rfl⟩
 rw[← hcm] at cr k1 k2 k3 k4 k5 ⊢
 obtain ⟨HK1,HK2,HK3⟩:=zh3 k1 k2 k3
 have HK4:=hide (Nat.le_trans k4 hl)
 have HK5:=hide (Nat.le_trans k5 hl)
 have HW1:=hide hW1
 have HBV:=hide (hB.kept g1 (by simp))
 have HB1:=hide hB1
 have HK:=hide (hbk.kept g1 (by simp))
 have HJ:=hide (hb2.kept g1 (by simp))
 have HG1:=hide (tn gu g1)
 have hus:u.heap.size≤w.heap.size:=gu.size
 clear hW1 hB g1 hR hcm hB1 gu k1 k2 k3 k4 k5 hl hbk hb2
 go_enter Tryz.func119,Tryz.ntmps119
 go_wp2_with (rw[← uh HW1])
 refine cr.mono ?_
 rintro e w2 ⟨v2,rfl,ho2,g2⟩
 have hs1:w.heap.size<W1.heap.size:=(uh HB1).lt
 obtain ⟨ao,c,hv2⟩:=zcw ho2
 subst hv2
 have hBv:=(uh HBV).kept g2 (by simp;omega)
 have hBo:=(uh HB1).kept g2 (by simp;omega)
 have hK2:=(uh HK).kept g2 (by simpa using hkr)
 have hJ2:=(uh HJ).kept g2 (by simpa using h2r)
 have G2:u.grownBy w2 none:=zae (uh HG1) g2 (fun x e=>by cases e;exact Or.inl hr)
 have ho2':=zbs ho2 (uh HG1).size
 obtain ⟨C,hC⟩:∃ C,C=chC cm ao c:=⟨_,rfl⟩
 rw[← ztk,← hC]
 have hCl:C.length=36:=by rw[hC];exact zif _ _ _ (uh HK1)
 have hCo:C.toArray.all (·.oneCell')=true:=by rw[hC];exact all_oneCell_toArray (zig _ _ _)
 obtain ⟨w3,hw3⟩:∃ V,V=w2.setRow vb C.toArray:=⟨_,rfl⟩
 have hB3:Blk w3 vb 156 C:=by rw[hw3];exact hBv.row _
 have hA3:Blk w3 w.heap.size 42 [.int .i64 0,.slice none 0 0]:=by rw[hw3];exact hBo.row_other _ _ (by omega)
 have hO3:w3.ownsRow u.heap.size 47 32 (.slice ao cm.pars.length c) cm.pars.length (cm.pars.flatMap (·.map bv)):=by rw[hw3];exact zcr ho2' hBv (by decide) _
 have G3:u.grownBy w3 none:=by rw[hw3];exact zar G2 _ (Or.inl hv)
 have hr3:=zas hB3
 have hi3:(Tryz.prog.info? 156).map (·.size)=some C.length:=by rw[hCl];exact zcg
 have hi4:(Tryz.prog.info? 156).map (·.size)=some C.toArray.size:=by simpa using hi3
 have hos:old.toArray.size=C.toArray.size:=by simp[ho36,hCl]
 have hE3:Ids w3 ao c cm.pars:=by
  obtain ⟨ao2,c2,e1,e2⟩:=Ids.own hO3 (uh HK2)
  injection e1 with e3 e4 e5
  subst e3 e5
  exact e2
 have co:=zpa w3 cm ao c hE3 (uh HK1) (uh HK4) (uh HK5) (by have:=uh HK3;omega)
 rw[← hC] at co
 obtain ⟨HI3,HI4,HOS,HCO,HC,HBV2⟩:=zh6 hi3 hi4 hos hCo hC hBv
 obtain ⟨r,hrr⟩:∃ r,r=zce cm:=⟨_,rfl⟩
 rw[← hrr] at co
 obtain ⟨HR,HW3,HB3,HA3,HO3⟩:=zh5 hrr hw3 hB3 hA3 hO3
 have HK3:=hide (show Blk w3 bk 42 bc by rw[hw3];exact hK2.row_other _ _ hkv.symm)
 have HJ3:=hide (show Blk w3 b2 t2 cs2 by rw[hw3];exact hJ2.row_other _ _ h2v.symm)
 have HG3:=hide G3
 clear cr ho2 ho2' hBv hBo G2 hw3 hB3 hA3 hO3 G3 hE3 g2 hrr HG1 HB1 HBV hi3 hi4 hos hCo hC hCl hK2 hJ2
 go_wp2_with (first
  | (refine wpList_store_row rfl 156 _ _ rfl vb C.toArray rfl rfl _ _ (uh HBV2) (uh HI4) (uh HOS) (uh HCO) ?_;rw[← uh HW3])
  | (refine wpList_load_mid rfl 156 _ rfl vb 0 rfl C _ hr3 Tryz.underlying156 rfl (uh HI3) ?_;clear hr3))
 refine co.mono ?_
 rintro e w4 ⟨v4,rfl,hN4,g4⟩
 have hA4:=(uh HA3).kept g4 (by simp)
 have hK4:=(uh HK3).kept g4 (by simp)
 have hJ4:=(uh HJ3).kept g4 (by simp)
 have hB4:=(uh HB3).kept g4 (by simp)
 have hO4:=zbw (uh HO3) g4 (fun x e=>by cases e)
 have G4:=tn (uh HG3) g4
 have h1c:v4.oneCell'=true:=by obtain ⟨_,_,rfl,_⟩:=hN4;rfl
 obtain ⟨x,hx⟩:∃ x:Int,x=r.1:=⟨_,rfl⟩
 rw[← hx]
 obtain ⟨K,hK⟩:∃ K:Int,K=(if x=0 then 3 else 0):=⟨_,rfl⟩
 rw[← hK]
 obtain ⟨HKK,HX⟩:=zh2 hK hx
 clear co hK hx
 rw[uh HC] at hB4
 go_wp2_with (refine wpList_store_row rfl 42 _ _ rfl w.heap.size #[.int .i64 K,v4] rfl rfl _ _ hA4 zax rfl (zes h1c) ?_)
 refine bodyPost_ret (zaf rfl _ _ _ _ _ _ _ rfl (hA4.row [.int .i64 K,v4]) Tryz.underlying42 rfl zax) rfl ?_
 have gF:=zar (zaa w4 (some w.heap.size)) #[.int .i64 K,v4] (Or.inr rfl)
 rw[← uh HR]
 refine ⟨v4,?_,?_,⟨⟨⟨_,_,hB4.row_other _ _ (by omega),zcr hO4 hA4 (by decide) _⟩,hJ4.row_other _ _ (by omega)⟩,hK4.row_other _ _ (by omega)⟩,zar G4 _ (Or.inl hus)⟩
 ·rw[← uh HX,← uh HKK]
  rfl
 ·obtain ⟨a',c',e1,e2,e3⟩:=hN4
  refine ⟨a',c',e1,e2.kept gF ?_⟩
  intro x e ad e5 e4
  cases e
  exact hA4.typ (by decide) (e4 ▸ (e3 ad e5).2)
def znc (vb:Nat) (m:MrkL) (w:World):Prop:=Blk w vb 160 (mkC m)
theorem znc.none {vb:Nat} {m:MrkL} {a b:World} (h:znc vb m a) (g:a.grownBy b none):znc vb m b:=Blk.kept h g (by simp)
theorem ziu (d:List UInt8):(zbl d).target.length=32∧(zbl d).name.length≤d.length∧(zbl d).text.length≤d.length:=by
 unfold zbl
 simp only
 refine ⟨zbh _ _,?_,?_⟩
 ·exact Nat.le_trans (zbz _ _) (zca _ _ _)
 ·exact Nat.le_trans (zbz _ _) (Nat.le_trans (za5 _ _) (zca _ _ _))
set_option maxHeartbeats 2000000 in
theorem zrp (u w:World) (rb vb:Nat) (d:List UInt8) (hl:d.length≤100000) (old:List Value) (ho36:old.length=34) (gu:u.grownBy w none) (hv:u.heap.size≤vb) (hr:u.heap.size≤rb) (hne:rb≠vb) (hR:Rd w rb d 0) (hB:Blk w vb 160 old) (bk:Nat) (bc:List Value) (hbk:Blk w bk 42 bc) (hkr:bk≠rb) (hkv:bk≠vb) (b2:Nat) (t2:TypeId) (cs2:List Value) (hb2:Blk w b2 t2 cs2) (h2r:b2≠rb) (h2v:b2≠vb) :
  Calls Tryz.prog 122 #[.pointer (some ⟨rb,0,none⟩),.pointer (some ⟨vb,0,none⟩)] w fun e w'=>znb u w' 4 (zcp (zbl d)) (fun V=>(znc vb (zbl d) V∧Blk V b2 t2 cs2)∧Blk V bk 42 bc) e:=by
 have hvl:=hB.lt
 have hbl:=hbk.lt
 have hbl2:=hb2.lt
 have hrl:=hR.lt
 obtain ⟨W1,hW1,hB1,g1⟩:∃ W1,W1=w.alloc (.cells #[.int .i64 0,.slice none 0 0] 42)∧Blk W1 w.heap.size 42 [.int .i64 0,.slice none 0 0]∧w.grownBy W1 none:=zag w _ _
 have cr:=zko W1 rb d (by omega) (hR.kept g1 (Or.inl rfl))
 obtain ⟨k1,k4,k5⟩:=ziu d
 obtain ⟨m,hcm⟩:∃ c,c=zbl d:=⟨_,rfl⟩
 rw[← hcm] at cr k1 k4 k5 ⊢
 have HK1:=hide k1
 have HK4:=hide (Nat.le_trans k4 hl)
 have HK5:=hide (Nat.le_trans k5 hl)
 have HW1:=hide hW1
 have HBV:=hide (hB.kept g1 (by simp))
 have HB1:=hide hB1
 have HK:=hide (hbk.kept g1 (by simp))
 have HJ:=hide (hb2.kept g1 (by simp))
 have HG1:=hide (tn gu g1)
 have hus:u.heap.size≤w.heap.size:=gu.size
 clear hW1 hB g1 hR hcm hB1 gu k1 k4 k5 hl hbk hb2
 go_enter Tryz.func122,Tryz.ntmps122
 go_wp2_with (rw[← uh HW1])
 refine cr.mono ?_
 rintro e w2 ⟨rfl,g2⟩
 have hs1:w.heap.size<W1.heap.size:=(uh HB1).lt
 have hBv:=(uh HBV).kept g2 (by simp;omega)
 have hBo:=(uh HB1).kept g2 (by simp;omega)
 have hK2:=(uh HK).kept g2 (by simpa using hkr)
 have hJ2:=(uh HJ).kept g2 (by simpa using h2r)
 have G2:u.grownBy w2 none:=zae (uh HG1) g2 (fun x e=>by cases e;exact Or.inl hr)
 obtain ⟨Z,hZ⟩:∃ Z:List Value,Z=chR (List.replicate 32 0) (.slice none 0 0) 0 [] []:=⟨_,rfl⟩
 have hzv:∀ w,(zeroValue 156).run Tryz.prog w = .ok (.agg Z.toArray) w:=fun w=>by rw[hZ];exact zg1 w
 have hZl:Z.length=36:=by rw[hZ];rfl
 obtain ⟨C,hC⟩:∃ C,C=chR m.target (.slice none 0 0) 0 m.name m.text:=⟨_,rfl⟩
 rw[← hC]
 have hCl:C.length=36:=by rw[hC];exact zfs _ _ _ _ _ (uh HK1)
 have hCo:C.toArray.all (·.oneCell')=true:=by rw[hC];exact all_oneCell_toArray (zft _ _ _ _ _ rfl)
 obtain ⟨W3,hW3,hBC,g3⟩:=zb6 w2 156 Z.toArray C
 obtain ⟨q1,q2,q3,q4⟩:=zb8 m.target (.slice none 0 0) 0 m.name m.text (uh HK1)
 rw[← hC] at q3 q4
 have hcn:W3.cell? ⟨w2.heap.size,34,none⟩=some (.string (str m.name)):=by rw[hBC.cell 34,q3]
 have hct:W3.cell? ⟨w2.heap.size,35,none⟩=some (.string (str m.text)):=by rw[hBC.cell 35,q4]
 have hrT:W3.rangeAt w2.heap.size 0 (m.target.map bv):=by
  have h1:=zas hBC
  rw[hC] at h1
  exact zij (c:=⟨m.target,[],0,m.name,m.text⟩) (po:=none) (pc:=0) h1
 have hiC:(Tryz.prog.info? 156).map (·.size)=some C.toArray.size:=by rw[show C.toArray.size=36 by simpa using hCl];exact zcg
 have hZC:Z.toArray.size=C.toArray.size:=by simp[hZl,hCl]
 have hBv3:=hBv.kept g3 (by simp)
 have hBo3:=hBo.kept g3 (by simp)
 have G3a:=tn G2 g3
 have hbt:Tryz.prog.built 160 [(0,.agg (m.target.map bv).toArray),(1,.string (str m.name)),(2,.string (str m.text))]=some (mkC m).toArray:=zoz m.target (str m.name) (str m.text) (uh HK1)
 have hiT:(Tryz.prog.info? 47).map (·.size)=some (m.target.map bv).length:=by rw[List.length_map,uh HK1];exact zba
 obtain ⟨TG,hTG⟩:∃ T,T=m.target.map bv:=⟨_,rfl⟩
 rw[← hTG] at hrT hbt hiT
 obtain ⟨MC,hMC⟩:∃ T,T=mkC m:=⟨_,rfl⟩
 rw[← hMC] at hbt
 have hMl:MC.length=34:=by rw[hMC];exact zki _ (uh HK1)
 have hMo:MC.toArray.all (·.oneCell')=true:=by rw[hMC];exact all_oneCell_toArray (zih _)
 obtain ⟨N,hN⟩:∃ N,N=str m.name:=⟨_,rfl⟩
 obtain ⟨X,hX⟩:∃ N,N=str m.text:=⟨_,rfl⟩
 rw[← hN] at hcn hbt
 rw[← hX] at hct hbt
 obtain ⟨w3,hw3⟩:∃ V,V=W3.setRow vb MC.toArray:=⟨_,rfl⟩
 have hB3:Blk w3 vb 160 MC:=by rw[hw3];exact hBv3.row _
 have hA3:Blk w3 w.heap.size 42 [.int .i64 0,.slice none 0 0]:=by rw[hw3];exact hBo3.row_other _ _ (by omega)
 have G3:u.grownBy w3 none:=by rw[hw3];exact zar G3a _ (Or.inl hv)
 have hr3:=zas hB3
 have hi3:(Tryz.prog.info? 160).map (·.size)=some MC.length:=by rw[hMl];exact zgk
 have hi4:(Tryz.prog.info? 160).map (·.size)=some MC.toArray.size:=by simpa using hi3
 have hos:old.toArray.size=MC.toArray.size:=by simp[ho36,hMl]
 have co:=zpb w3 m (uh HK1) (uh HK4) (by have:=uh HK5;omega)
 rw[← hMC] at co
 obtain ⟨HI3,HI4,HOS,HMO,HMC,HBV2⟩:=zh6 hi3 hi4 hos hMo hMC hBv3
 obtain ⟨HWC,HIC,HZC,HCO,HIT,HBT⟩:=zh6 hW3 hiC hZC hCo hiT hbt
 obtain ⟨r,hrr⟩:∃ r,r=zcp m:=⟨_,rfl⟩
 rw[← hrr] at co
 obtain ⟨HR,HW3,HB3,HA3⟩:=zh4 hrr hw3 hB3 hA3
 have HK3:=hide (show Blk w3 bk 42 bc by rw[hw3];exact (hK2.kept g3 (by simp)).row_other _ _ hkv.symm)
 have HJ3:=hide (show Blk w3 b2 t2 cs2 by rw[hw3];exact (hJ2.kept g3 (by simp)).row_other _ _ h2v.symm)
 have HG3:=hide G3
 clear cr hBv hBo G2 hw3 hB3 hA3 G3 g2 hrr HG1 HB1 HBV hi3 hi4 hos hMo hMC hMl hW3 hiC hZC hCo hiT hbt hBv3 hBo3 G3a g3 hBC hC hCl hZ hZl q1 q2 q3 q4 hTG hN hX hK2 hJ2
 go_wp2_with (first
  | (refine wpList_load_mid rfl 47 _ rfl w2.heap.size 0 rfl TG _ hrT Tryz.underlying47 rfl (uh HIT) ?_;clear hrT)
  | (refine wpList_load_mid rfl 160 _ rfl vb 0 rfl MC _ hr3 Tryz.underlying160 rfl (uh HI3) ?_;clear hr3)
  | (refine wpList_store_row rfl 156 _ _ rfl w2.heap.size C.toArray rfl rfl _ _ (heap_alloc_new _ _) (uh HIC) (uh HZC) (uh HCO) ?_;rw[← uh HWC])
  | (refine wpList_store_row rfl 160 _ _ rfl vb MC.toArray rfl rfl _ _ (uh HBV2) (uh HI4) (uh HOS) (uh HMO) ?_;rw[← uh HW3])
  | (refine zbi rfl 160 _ rfl MC.toArray ?hbs ?_))
 case hbs=>simpa using uh HBT
 refine co.mono ?_
 rintro e w4 ⟨v4,rfl,hN4,g4⟩
 have hA4:=(uh HA3).kept g4 (by simp)
 have hK4:=(uh HK3).kept g4 (by simp)
 have hJ4:=(uh HJ3).kept g4 (by simp)
 have hB4:=(uh HB3).kept g4 (by simp)
 have G4:=tn (uh HG3) g4
 have h1c:v4.oneCell'=true:=by obtain ⟨_,_,rfl,_⟩:=hN4;rfl
 obtain ⟨x,hx⟩:∃ x:Int,x=r.1:=⟨_,rfl⟩
 rw[← hx]
 obtain ⟨K,hK⟩:∃ K:Int,K=(if x=0 then 4 else 0):=⟨_,rfl⟩
 rw[← hK]
 obtain ⟨HKK,HX⟩:=zh2 hK hx
 clear co hK hx
 rw[uh HMC] at hB4
 go_wp2_with (refine wpList_store_row rfl 42 _ _ rfl w.heap.size #[.int .i64 K,v4] rfl rfl _ _ hA4 zax rfl (zes h1c) ?_)
 refine bodyPost_ret (zaf rfl _ _ _ _ _ _ _ rfl (hA4.row [.int .i64 K,v4]) Tryz.underlying42 rfl zax) rfl ?_
 have gF:=zar (zaa w4 (some w.heap.size)) #[.int .i64 K,v4] (Or.inr rfl)
 rw[← uh HR]
 refine ⟨v4,?_,?_,⟨⟨hB4.row_other _ _ (by omega),hJ4.row_other _ _ (by omega)⟩,hK4.row_other _ _ (by omega)⟩,zar G4 _ (Or.inl hus)⟩
 ·rw[← uh HX,← uh HKK]
  rfl
 ·obtain ⟨a',c',e1,e2,e3⟩:=hN4
  refine ⟨a',c',e1,e2.kept gF ?_⟩
  intro x e ad e5 e4
  cases e
  exact hA4.typ (by decide) (e4 ▸ (e3 ad e5).2)
theorem zg5 (w:World) (k K:Int) (hk:(k == K)=false) (ao:Option Addr) (n c:Nat) (fv:Value) :
  Calls Tryz.prog 115 #[.agg #[.int .i64 k,.slice ao n c],.int .i64 K,fv] w fun e w'=>e = .returned (.int .i64 2)∧w.grownBy w' none:=by
 have hk2:¬ k=K:=by simpa using hk
 go_enter Tryz.func115,Tryz.ntmps115
 go_wp2
 go_ret
 exact ⟨rfl,zad (zaa _ _) _⟩
set_option maxHeartbeats 2000000 in
theorem zrq (u w:World) (gu:u.grownBy w none) (ao:Option Addr) (c:Nat) (d:List UInt8) (hb:Bts u ao c d) (hd:d.length≤1000000) (vb:Nat) (K:Int) (r:Int × List UInt8) (R:World→Prop) (hR:∀ a b,R a→a.grownBy b none→R b)
  (hf:∀ V rb bc,u.grownBy V none→w.grownBy V none→w.heap.size<rb→Rd V rb d 0→Blk V w.heap.size 42 bc→Calls Tryz.prog 116 #[.pointer (some ⟨rb,0,none⟩),.pointer (some ⟨vb,0,none⟩)] V fun e w'=>znb u w' K r (fun V'=>R V'∧Blk V' w.heap.size 42 bc) e) :
  Calls Tryz.prog 115 #[.agg #[.int .i64 K,.slice ao d.length c],.int .i64 K,.func (.func 116) #[] #[.pointer (some ⟨vb,0,none⟩)]] w fun e w'=>e = .returned (.int .i64 (if r=(0,d) then 0 else 11))∧R w'∧u.grownBy w' none:=by
 obtain ⟨Y,hY⟩:∃ y:Int,y=(if r=(0,d) then 0 else 11):=⟨_,rfl⟩
 rw[← hY]
 have HY:=hide hY
 clear hY
 obtain ⟨n,hn⟩:∃ n,n=d.length:=⟨_,rfl⟩
 obtain ⟨W0,hW0,hB0,g0⟩:∃ W1,W1=w.alloc (.cells #[.int .i64 K,.slice ao n c] 42)∧Blk W1 w.heap.size 42 [.int .i64 K,.slice ao n c]∧w.grownBy W1 none:=zag w _ _
 have cn:=zgt W0 ao c d (hb.kept (tn gu g0) (fun _ e=>by cases e)) (by omega)
 have c0:=hB0.cell 0
 have c1:=hB0.cell 1
 simp only[List.getElem?_cons_zero,List.getElem?_cons_succ] at c0 c1
 rw[← hn] at cn ⊢
 obtain ⟨HN,HW0,HF,HR,HB,HB0⟩:=zh6 hn hW0 hf hR hb hB0
 obtain ⟨HGU,HG0⟩:=zh2 gu g0
 clear hn hW0 hf hR hb hB0 gu g0
 go_enter Tryz.func115,Tryz.ntmps115
 go_wp2_with (rw[← uh HW0])
 refine cn.mono ?_
 rintro e w1 ⟨rb,rfl,hrb,hRd,g1⟩
 have hws:w.heap.size<W0.heap.size:=(uh HB0).lt
 have cf:=uh HF w1 rb _ (tn (tn (uh HGU) (uh HG0)) g1) (tn (uh HG0) g1) (by omega) hRd ((uh HB0).kept g1 (by simp))
 clear cn hRd g1 c0 c1
 go_wp2_with fail
 refine cf.mono ?_
 rintro e w2 ⟨v2,rfl,⟨a2,c2,rfl,hb2⟩,⟨hR2,hK2⟩,g2⟩
 obtain ⟨n2,hn2⟩:∃ n,n=r.2.length:=⟨_,rfl⟩
 obtain ⟨x,hx⟩:∃ x:Int,x=r.1:=⟨_,rfl⟩
 rw[← hn2,← hx]
 obtain ⟨KK,hKK⟩:∃ k:Int,k=(if x=0 then K else 0):=⟨_,rfl⟩
 rw[← hKK]
 obtain ⟨W3,hW3,hB3,g3⟩:∃ W1,W1=w2.alloc (.cells #[.int .i64 KK,.slice a2 n2 c2] 42)∧Blk W1 w2.heap.size 42 [.int .i64 KK,.slice a2 n2 c2]∧w2.grownBy W1 none:=zag w2 _ _
 have hK3:=hK2.kept g3 (by simp)
 have d0:=hK3.cell 0
 have d1:=hK3.cell 1
 have f0:=hB3.cell 0
 have f1:=hB3.cell 1
 simp only[List.getElem?_cons_zero,List.getElem?_cons_succ] at d0 d1 f0 f1
 have HW3:=hide hW3
 have hb3:=hb2.kept g3 (fun _ e=>by cases e)
 have G3:=tn g2 g3
 have hR3:=uh HR w2 W3 hR2 g3
 by_cases hx0:x=0
 ·have hKe:KK=K:=by rw[hKK,if_pos hx0]
  have hbd:Bts W3 ao c d:=(uh HB).kept G3 (fun _ e=>by cases e)
  have cs:=zgl W3 KK K a2 ao c2 c r.2 d hb3 hbd
  rw[← hn2,← uh HN] at cs
  obtain ⟨B,hB⟩:∃ B,B=decide (KK=K∧r.2=d):=⟨_,rfl⟩
  rw[← hB] at cs
  have hfin:Y=(if B=true then 0 else 11):=by
   rw[hB,uh HY]
   by_cases hq:r.2=d
   ·rw[if_pos (show r=(0,d) by rw[← hq,← hx0,hx]),if_pos (by simp[hKe,hq])]
   ·rw[if_neg (show ¬ r=(0,d) from fun e=>hq (by rw[e])),if_neg (by simp[hq])]
  obtain ⟨HFN,HR3⟩:=zh2 hfin hR3
  clear hKe hbd hB hfin hb2 hb3 hR2 hK2 hK3 hB3 hW3 hn2 hx hKK hR3 cf g2 g3
  subst hx0
  cases B
  ·go_wp2_with (first
    | (go_at_call 19;refine cs.mono ?_;rintro e w4 ⟨rfl,g4⟩;clear cs)
    | (rw[← uh HW3]))
   go_ret
   rw[uh HFN]
   exact ⟨rfl,uh HR _ _ (uh HR3) g4,tn G3 g4⟩
  ·go_wp2_with (first
    | (go_at_call 19;refine cs.mono ?_;rintro e w4 ⟨rfl,g4⟩;clear cs)
    | (rw[← uh HW3]))
   go_ret
   rw[uh HFN]
   exact ⟨rfl,uh HR _ _ (uh HR3) g4,tn G3 g4⟩
 ·have hx1:(x == 0)=false:=by simpa using hx0
  have hfin:Y=11:=by rw[uh HY];exact if_neg (fun e=>hx0 (by rw[hx,e]))
  obtain ⟨HFN,HR3⟩:=zh2 hfin hR3
  clear hfin hb2 hb3 hR2 hK2 hK3 hB3 hW3 hn2 hx hKK hR3 cf g2 g3
  go_wp2_with (rw[← uh HW3])
  go_ret
  rw[uh HFN]
  first
   | exact ⟨rfl,uh HR3,G3⟩
   | (rw[← uh HW3];exact ⟨rfl,uh HR3,G3⟩)
set_option maxHeartbeats 2000000 in
theorem zrr (u w:World) (gu:u.grownBy w none) (ao:Option Addr) (c:Nat) (d:List UInt8) (hb:Bts u ao c d) (hd:d.length≤1000000) (vb:Nat) (K:Int) (r:Int × List UInt8) (R:World→Prop) (hR:∀ a b,R a→a.grownBy b none→R b)
  (hf:∀ V rb bc,u.grownBy V none→w.grownBy V none→w.heap.size<rb→Rd V rb d 0→Blk V w.heap.size 42 bc→Calls Tryz.prog 119 #[.pointer (some ⟨rb,0,none⟩),.pointer (some ⟨vb,0,none⟩)] V fun e w'=>znb u w' K r (fun V'=>R V'∧Blk V' w.heap.size 42 bc) e) :
  Calls Tryz.prog 115 #[.agg #[.int .i64 K,.slice ao d.length c],.int .i64 K,.func (.func 119) #[] #[.pointer (some ⟨vb,0,none⟩)]] w fun e w'=>e = .returned (.int .i64 (if r=(0,d) then 0 else 11))∧R w'∧u.grownBy w' none:=by
 obtain ⟨Y,hY⟩:∃ y:Int,y=(if r=(0,d) then 0 else 11):=⟨_,rfl⟩
 rw[← hY]
 have HY:=hide hY
 clear hY
 obtain ⟨n,hn⟩:∃ n,n=d.length:=⟨_,rfl⟩
 obtain ⟨W0,hW0,hB0,g0⟩:∃ W1,W1=w.alloc (.cells #[.int .i64 K,.slice ao n c] 42)∧Blk W1 w.heap.size 42 [.int .i64 K,.slice ao n c]∧w.grownBy W1 none:=zag w _ _
 have cn:=zgt W0 ao c d (hb.kept (tn gu g0) (fun _ e=>by cases e)) (by omega)
 have c0:=hB0.cell 0
 have c1:=hB0.cell 1
 simp only[List.getElem?_cons_zero,List.getElem?_cons_succ] at c0 c1
 rw[← hn] at cn ⊢
 obtain ⟨HN,HW0,HF,HR,HB,HB0⟩:=zh6 hn hW0 hf hR hb hB0
 obtain ⟨HGU,HG0⟩:=zh2 gu g0
 clear hn hW0 hf hR hb hB0 gu g0
 go_enter Tryz.func115,Tryz.ntmps115
 go_wp2_with (rw[← uh HW0])
 refine cn.mono ?_
 rintro e w1 ⟨rb,rfl,hrb,hRd,g1⟩
 have hws:w.heap.size<W0.heap.size:=(uh HB0).lt
 have cf:=uh HF w1 rb _ (tn (tn (uh HGU) (uh HG0)) g1) (tn (uh HG0) g1) (by omega) hRd ((uh HB0).kept g1 (by simp))
 clear cn hRd g1 c0 c1
 go_wp2_with fail
 refine cf.mono ?_
 rintro e w2 ⟨v2,rfl,⟨a2,c2,rfl,hb2⟩,⟨hR2,hK2⟩,g2⟩
 obtain ⟨n2,hn2⟩:∃ n,n=r.2.length:=⟨_,rfl⟩
 obtain ⟨x,hx⟩:∃ x:Int,x=r.1:=⟨_,rfl⟩
 rw[← hn2,← hx]
 obtain ⟨KK,hKK⟩:∃ k:Int,k=(if x=0 then K else 0):=⟨_,rfl⟩
 rw[← hKK]
 obtain ⟨W3,hW3,hB3,g3⟩:∃ W1,W1=w2.alloc (.cells #[.int .i64 KK,.slice a2 n2 c2] 42)∧Blk W1 w2.heap.size 42 [.int .i64 KK,.slice a2 n2 c2]∧w2.grownBy W1 none:=zag w2 _ _
 have hK3:=hK2.kept g3 (by simp)
 have d0:=hK3.cell 0
 have d1:=hK3.cell 1
 have f0:=hB3.cell 0
 have f1:=hB3.cell 1
 simp only[List.getElem?_cons_zero,List.getElem?_cons_succ] at d0 d1 f0 f1
 have HW3:=hide hW3
 have hb3:=hb2.kept g3 (fun _ e=>by cases e)
 have G3:=tn g2 g3
 have hR3:=uh HR w2 W3 hR2 g3
 by_cases hx0:x=0
 ·have hKe:KK=K:=by rw[hKK,if_pos hx0]
  have hbd:Bts W3 ao c d:=(uh HB).kept G3 (fun _ e=>by cases e)
  have cs:=zgl W3 KK K a2 ao c2 c r.2 d hb3 hbd
  rw[← hn2,← uh HN] at cs
  obtain ⟨B,hB⟩:∃ B,B=decide (KK=K∧r.2=d):=⟨_,rfl⟩
  rw[← hB] at cs
  have hfin:Y=(if B=true then 0 else 11):=by
   rw[hB,uh HY]
   by_cases hq:r.2=d
   ·rw[if_pos (show r=(0,d) by rw[← hq,← hx0,hx]),if_pos (by simp[hKe,hq])]
   ·rw[if_neg (show ¬ r=(0,d) from fun e=>hq (by rw[e])),if_neg (by simp[hq])]
  obtain ⟨HFN,HR3⟩:=zh2 hfin hR3
  clear hKe hbd hB hfin hb2 hb3 hR2 hK2 hK3 hB3 hW3 hn2 hx hKK hR3 cf g2 g3
  subst hx0
  cases B
  ·go_wp2_with (first
    | (go_at_call 19;refine cs.mono ?_;rintro e w4 ⟨rfl,g4⟩;clear cs)
    | (rw[← uh HW3]))
   go_ret
   rw[uh HFN]
   exact ⟨rfl,uh HR _ _ (uh HR3) g4,tn G3 g4⟩
  ·go_wp2_with (first
    | (go_at_call 19;refine cs.mono ?_;rintro e w4 ⟨rfl,g4⟩;clear cs)
    | (rw[← uh HW3]))
   go_ret
   rw[uh HFN]
   exact ⟨rfl,uh HR _ _ (uh HR3) g4,tn G3 g4⟩
 ·have hx1:(x == 0)=false:=by simpa using hx0
  have hfin:Y=11:=by rw[uh HY];exact if_neg (fun e=>hx0 (by rw[hx,e]))
  obtain ⟨HFN,HR3⟩:=zh2 hfin hR3
  clear hfin hb2 hb3 hR2 hK2 hK3 hB3 hW3 hn2 hx hKK hR3 cf g2 g3
  go_wp2_with (rw[← uh HW3])
  go_ret
  rw[uh HFN]
  first
   | exact ⟨rfl,uh HR3,G3⟩
   | (rw[← uh HW3];exact ⟨rfl,uh HR3,G3⟩)
set_option maxHeartbeats 2000000 in
theorem zrs (u w:World) (gu:u.grownBy w none) (ao:Option Addr) (c:Nat) (d:List UInt8) (hb:Bts u ao c d) (hd:d.length≤1000000) (vb:Nat) (K:Int) (r:Int × List UInt8) (R:World→Prop) (hR:∀ a b,R a→a.grownBy b none→R b)
  (hf:∀ V rb bc,u.grownBy V none→w.grownBy V none→w.heap.size<rb→Rd V rb d 0→Blk V w.heap.size 42 bc→Calls Tryz.prog 122 #[.pointer (some ⟨rb,0,none⟩),.pointer (some ⟨vb,0,none⟩)] V fun e w'=>znb u w' K r (fun V'=>R V'∧Blk V' w.heap.size 42 bc) e) :
  Calls Tryz.prog 115 #[.agg #[.int .i64 K,.slice ao d.length c],.int .i64 K,.func (.func 122) #[] #[.pointer (some ⟨vb,0,none⟩)]] w fun e w'=>e = .returned (.int .i64 (if r=(0,d) then 0 else 11))∧R w'∧u.grownBy w' none:=by
 obtain ⟨Y,hY⟩:∃ y:Int,y=(if r=(0,d) then 0 else 11):=⟨_,rfl⟩
 rw[← hY]
 have HY:=hide hY
 clear hY
 obtain ⟨n,hn⟩:∃ n,n=d.length:=⟨_,rfl⟩
 obtain ⟨W0,hW0,hB0,g0⟩:∃ W1,W1=w.alloc (.cells #[.int .i64 K,.slice ao n c] 42)∧Blk W1 w.heap.size 42 [.int .i64 K,.slice ao n c]∧w.grownBy W1 none:=zag w _ _
 have cn:=zgt W0 ao c d (hb.kept (tn gu g0) (fun _ e=>by cases e)) (by omega)
 have c0:=hB0.cell 0
 have c1:=hB0.cell 1
 simp only[List.getElem?_cons_zero,List.getElem?_cons_succ] at c0 c1
 rw[← hn] at cn ⊢
 obtain ⟨HN,HW0,HF,HR,HB,HB0⟩:=zh6 hn hW0 hf hR hb hB0
 obtain ⟨HGU,HG0⟩:=zh2 gu g0
 clear hn hW0 hf hR hb hB0 gu g0
 go_enter Tryz.func115,Tryz.ntmps115
 go_wp2_with (rw[← uh HW0])
 refine cn.mono ?_
 rintro e w1 ⟨rb,rfl,hrb,hRd,g1⟩
 have hws:w.heap.size<W0.heap.size:=(uh HB0).lt
 have cf:=uh HF w1 rb _ (tn (tn (uh HGU) (uh HG0)) g1) (tn (uh HG0) g1) (by omega) hRd ((uh HB0).kept g1 (by simp))
 clear cn hRd g1 c0 c1
 go_wp2_with fail
 refine cf.mono ?_
 rintro e w2 ⟨v2,rfl,⟨a2,c2,rfl,hb2⟩,⟨hR2,hK2⟩,g2⟩
 obtain ⟨n2,hn2⟩:∃ n,n=r.2.length:=⟨_,rfl⟩
 obtain ⟨x,hx⟩:∃ x:Int,x=r.1:=⟨_,rfl⟩
 rw[← hn2,← hx]
 obtain ⟨KK,hKK⟩:∃ k:Int,k=(if x=0 then K else 0):=⟨_,rfl⟩
 rw[← hKK]
 obtain ⟨W3,hW3,hB3,g3⟩:∃ W1,W1=w2.alloc (.cells #[.int .i64 KK,.slice a2 n2 c2] 42)∧Blk W1 w2.heap.size 42 [.int .i64 KK,.slice a2 n2 c2]∧w2.grownBy W1 none:=zag w2 _ _
 have hK3:=hK2.kept g3 (by simp)
 have d0:=hK3.cell 0
 have d1:=hK3.cell 1
 have f0:=hB3.cell 0
 have f1:=hB3.cell 1
 simp only[List.getElem?_cons_zero,List.getElem?_cons_succ] at d0 d1 f0 f1
 have HW3:=hide hW3
 have hb3:=hb2.kept g3 (fun _ e=>by cases e)
 have G3:=tn g2 g3
 have hR3:=uh HR w2 W3 hR2 g3
 by_cases hx0:x=0
 ·have hKe:KK=K:=by rw[hKK,if_pos hx0]
  have hbd:Bts W3 ao c d:=(uh HB).kept G3 (fun _ e=>by cases e)
  have cs:=zgl W3 KK K a2 ao c2 c r.2 d hb3 hbd
  rw[← hn2,← uh HN] at cs
  obtain ⟨B,hB⟩:∃ B,B=decide (KK=K∧r.2=d):=⟨_,rfl⟩
  rw[← hB] at cs
  have hfin:Y=(if B=true then 0 else 11):=by
   rw[hB,uh HY]
   by_cases hq:r.2=d
   ·rw[if_pos (show r=(0,d) by rw[← hq,← hx0,hx]),if_pos (by simp[hKe,hq])]
   ·rw[if_neg (show ¬ r=(0,d) from fun e=>hq (by rw[e])),if_neg (by simp[hq])]
  obtain ⟨HFN,HR3⟩:=zh2 hfin hR3
  clear hKe hbd hB hfin hb2 hb3 hR2 hK2 hK3 hB3 hW3 hn2 hx hKK hR3 cf g2 g3
  subst hx0
  cases B
  ·go_wp2_with (first
    | (go_at_call 19;refine cs.mono ?_;rintro e w4 ⟨rfl,g4⟩;clear cs)
    | (rw[← uh HW3]))
   go_ret
   rw[uh HFN]
   exact ⟨rfl,uh HR _ _ (uh HR3) g4,tn G3 g4⟩
  ·go_wp2_with (first
    | (go_at_call 19;refine cs.mono ?_;rintro e w4 ⟨rfl,g4⟩;clear cs)
    | (rw[← uh HW3]))
   go_ret
   rw[uh HFN]
   exact ⟨rfl,uh HR _ _ (uh HR3) g4,tn G3 g4⟩
 ·have hx1:(x == 0)=false:=by simpa using hx0
  have hfin:Y=11:=by rw[uh HY];exact if_neg (fun e=>hx0 (by rw[hx,e]))
  obtain ⟨HFN,HR3⟩:=zh2 hfin hR3
  clear hfin hb2 hb3 hR2 hK2 hK3 hB3 hW3 hn2 hx hKK hR3 cf g2 g3
  go_wp2_with (rw[← uh HW3])
  go_ret
  rw[uh HFN]
  first
   | exact ⟨rfl,uh HR3,G3⟩
   | (rw[← uh HW3];exact ⟨rfl,uh HR3,G3⟩)
def telT (k:Int) (d:List UInt8):Int × List EntL:=if k=2 then (if za4 (zbo d)=(0,d) then (0,zbo d) else (11,[])) else (2,[])
def zfa:ChgL:=⟨List.replicate 32 0,[],0,[],[]⟩
def zga:MrkL:=⟨List.replicate 32 0,[],[]⟩
def telC (k:Int) (d:List UInt8):Int × ChgL:=if k=3 then (if zce (za8 d)=(0,d) then (0,za8 d) else (11,zfa)) else (2,zfa)
def telM (k:Int) (d:List UInt8):Int × MrkL:=if k=4 then (if zcp (zbl d)=(0,d) then (0,zbl d) else (11,zga)) else (2,zga)
set_option maxHeartbeats 2000000 in
theorem znd (w:World) (k:Int) (ao:Option Addr) (c:Nat) (d:List UInt8) (hb:Bts w ao c d) (hd:d.length≤100000) :
  Calls Tryz.prog 80 #[.agg #[.int .i64 k,.slice ao d.length c]] w fun e w'=>∃ v y,e = .returned (.tuple #[v,.int .i64 y])∧y=(telT k d).1∧w'.ownsRow w.heap.size 154 34 v (telT k d).2.length ((telT k d).2.flatMap enC)∧w.grownBy w' none:=by
 obtain ⟨n,hn⟩:∃ n,n=d.length:=⟨_,rfl⟩
 obtain ⟨W0,hW0,hB0,g0⟩:∃ W1,W1=w.alloc (.cells #[.int .i64 k,.slice ao n c] 42)∧Blk W1 w.heap.size 42 [.int .i64 k,.slice ao n c]∧w.grownBy W1 none:=zag w _ _
 obtain ⟨W1,hW1,hB1,g1⟩:∃ W1,W1=W0.alloc (.cells #[.slice none 0 0] 150)∧Blk W1 W0.heap.size 150 [.slice none 0 0]∧W0.grownBy W1 none:=zag W0 _ _
 have hs0:W0.heap.size=w.heap.size+1:=by rw[hW0];simp
 rw[hs0] at hB1
 have hBo:=hB0.kept g1 (by simp)
 have c0:=hBo.cell 0
 have c1:=hBo.cell 1
 simp only[List.getElem?_cons_zero,List.getElem?_cons_succ] at c0 c1
 have G1:=tn g0 g1
 have hs1:W1.heap.size=w.heap.size+2:=by rw[hW1,hW0];simp
 have hW:W1=(w.alloc (.cells #[.int .i64 k,.slice ao n c] 42)).alloc (.cells #[.slice none 0 0] 150):=by rw[hW1,hW0]
 have HW:=hide hW
 by_cases hk:k=2
 ·subst hk
  have cf:=zrq w W1 G1 ao c d hb (by omega) (w.heap.size+1) 2 (za4 (zbo d)) (zpc w (w.heap.size+1) (zbo d)) (fun a b h g=>h.none g)
   (fun V rb bc gu gw hrb hRd hbk=>zrm w V rb (w.heap.size+1) d (by omega) _ gu (Nat.le_succ _) (by omega) (by omega) hRd (hB1.kept gw (by simp)) W1.heap.size bc hbk (by omega) (by omega))
  rw[← hn] at cf
  rw[← hn]
  have hT:telT 2 d=(if za4 (zbo d)=(0,d) then (0,zbo d) else (11,[])):=by simp[telT]
  obtain ⟨t,ht⟩:∃ t,t=telT 2 d:=⟨_,rfl⟩
  rw[← ht] at hT ⊢
  obtain ⟨y,hy⟩:∃ y:Int,y=(if za4 (zbo d)=(0,d) then 0 else 11):=⟨_,rfl⟩
  rw[← hy] at cf
  have hyc:(y=0∧t=(0,zbo d))∨(y=11∧t=(11,[])):=by
   by_cases hq:za4 (zbo d)=(0,d)
   ·left;rw[hT,hy,if_pos hq,if_pos hq];exact ⟨rfl,rfl⟩
   ·right;rw[hT,hy,if_neg hq,if_neg hq];exact ⟨rfl,rfl⟩
  clear hW1 hW0 hW hB0 hB1 hBo g0 g1 hT hy hn ht hs0 hs1 hb hd
  rcases hyc with ⟨rfl,ht⟩ | ⟨rfl,ht⟩
  ·have HT:=hide ht
   clear ht
   go_enter Tryz.func80,Tryz.ntmps80
   go_wp2_with (rw[← uh HW])
   refine cf.mono ?_
   rintro e w2 ⟨rfl,⟨v,hB2,ho2⟩,g2⟩
   have c2:=hB2.cell 0
   simp only[List.getElem?_cons_zero] at c2
   have HO:=hide ho2
   clear cf ho2 hB2 c0 c1
   go_wp2
   refine bodyPost_ret (v := .tuple #[v,.int .i64 0]) (by simp[results,Tryz.results80,go_sem]) rfl ?_
   exact ⟨v,0,rfl,by rw[uh HT],by rw[uh HT];exact uh HO,g2⟩
  ·have HT:=hide ht
   clear ht
   go_enter Tryz.func80,Tryz.ntmps80
   go_wp2_with (rw[← uh HW])
   refine cf.mono ?_
   rintro e w2 ⟨rfl,hkp,g2⟩
   clear cf hkp c0 c1
   go_wp2
   refine bodyPost_ret (v := .tuple #[.slice none 0 0,.int .i64 11]) (by simp[results,Tryz.results80,go_sem]) rfl ?_
   exact ⟨_,11,rfl,by rw[uh HT],by rw[uh HT];exact World.ownsRow_nil _ _ _ _,g2⟩
 ·have cf:=zg5 W1 k 2 (by simpa using hk) ao n c (.func (.func 116) #[] #[.pointer (some ⟨w.heap.size+1,0,none⟩)])
  rw[← hn]
  have ht:telT k d=(2,[]):=by simp[telT,hk]
  have HT:=hide ht
  clear hW1 hW0 hW hB0 hB1 hBo g0 g1 hn ht hs0 hs1 hb hd
  go_enter Tryz.func80,Tryz.ntmps80
  go_wp2_with (rw[← uh HW])
  refine cf.mono ?_
  rintro e w2 ⟨rfl,g2⟩
  clear cf c0 c1
  go_wp2
  refine bodyPost_ret (v := .tuple #[.slice none 0 0,.int .i64 2]) (by simp[results,Tryz.results80,go_sem]) rfl ?_
  exact ⟨_,2,rfl,by rw[uh HT],by rw[uh HT];exact World.ownsRow_nil _ _ _ _,tn G1 g2⟩
set_option maxHeartbeats 2000000 in
theorem zjn (w:World) (k:Int) (ao:Option Addr) (c:Nat) (d:List UInt8) (hb:Bts w ao c d) (hd:d.length≤100000) :
  Calls Tryz.prog 81 #[.agg #[.int .i64 k,.slice ao d.length c]] w fun e w'=>∃ po pc y,e = .returned (.tuple #[.agg (chC (telC k d).2 po pc).toArray,.int .i64 y])∧y=(telC k d).1∧w'.ownsRow w.heap.size 47 32 (.slice po (telC k d).2.pars.length pc) (telC k d).2.pars.length ((telC k d).2.pars.flatMap (·.map bv))∧w.grownBy w' none:=by
 obtain ⟨n,hn⟩:∃ n,n=d.length:=⟨_,rfl⟩
 obtain ⟨Z,hZ⟩:∃ Z:List Value,Z=chC zfa none 0:=⟨_,rfl⟩
 have hzv:∀ w,(zeroValue 156).run Tryz.prog w = .ok (.agg Z.toArray) w:=fun w=>by rw[hZ];kernel_rfl
 have hzb:Tryz.prog.built 156 []=some Z.toArray:=by rw[hZ];kernel_rfl
 have hZl:Z.length=36:=by rw[hZ];rfl
 have hZo:Z.toArray.all (·.oneCell')=true:=by rw[hZ];exact all_oneCell_toArray (zig _ _ _)
 obtain ⟨W0,hW0,hB0,g0⟩:∃ W1,W1=w.alloc (.cells #[.int .i64 k,.slice ao n c] 42)∧Blk W1 w.heap.size 42 [.int .i64 k,.slice ao n c]∧w.grownBy W1 none:=zag w _ _
 obtain ⟨Wr,hWr,hBr,gr⟩:∃ W1,W1=W0.alloc (.cells Z.toArray 156)∧Blk W1 W0.heap.size 156 Z∧W0.grownBy W1 none:=zag W0 _ _
 obtain ⟨W1,hW1,hB1,g1⟩:∃ W1,W1=Wr.alloc (.cells Z.toArray 156)∧Blk W1 Wr.heap.size 156 Z∧Wr.grownBy W1 none:=zag Wr _ _
 have hs0:W0.heap.size=w.heap.size+1:=by rw[hW0];simp
 have hsr:Wr.heap.size=w.heap.size+2:=by rw[hWr,hW0];simp
 rw[hs0] at hBr
 rw[hsr] at hB1
 have hBo:=(hB0.kept gr (by simp)).kept g1 (by simp)
 have hBr1:=hBr.kept g1 (by simp)
 have c0:=hBo.cell 0
 have c1:=hBo.cell 1
 simp only[List.getElem?_cons_zero,List.getElem?_cons_succ] at c0 c1
 have G1:=tn (tn g0 gr) g1
 have hs1:W1.heap.size=w.heap.size+3:=by rw[hW1,hWr,hW0];simp
 have hW:W1=((w.alloc (.cells #[.int .i64 k,.slice ao n c] 42)).alloc (.cells Z.toArray 156)).alloc (.cells Z.toArray 156):=by rw[hW1,hWr,hW0]
 have HW:=hide hW
 have hiZ:(Tryz.prog.info? 156).map (·.size)=some Z.toArray.size:=by rw[show Z.toArray.size=36 by simpa using hZl];exact zcg
 obtain ⟨HIZ,HZB,HZO,HBR,HZ,HZL⟩:=zh6 hiZ hzb hZo hBr1 hZ hZl
 have HG1:=hide G1
 clear hiZ hzb hZo
 by_cases hk:k=3
 ·subst hk
  have cf:=zrr w W1 G1 ao c d hb (by omega) (w.heap.size+2) 3 (zce (za8 d)) (fun V=>zpe w (w.heap.size+2) (za8 d) V∧Blk V (w.heap.size+1) 156 Z) (fun a b h g=>⟨h.1.none g,h.2.kept g (by simp)⟩)
   (fun V rb bc gu gw hrb hRd hbk=>(zro w V rb (w.heap.size+2) d (by omega) _ hZl gu (by omega) (by omega) (by omega) hRd (hB1.kept gw (by simp)) W1.heap.size bc hbk (by omega) (by omega) (w.heap.size+1) _ Z (hBr1.kept gw (by simp)) (by omega) (by omega)))
  rw[← hn] at cf
  rw[← hn]
  have hT:telC 3 d=(if zce (za8 d)=(0,d) then (0,za8 d) else (11,zfa)):=by simp[telC]
  obtain ⟨t,ht⟩:∃ t,t=telC 3 d:=⟨_,rfl⟩
  rw[← ht] at hT ⊢
  obtain ⟨y,hy⟩:∃ y:Int,y=(if zce (za8 d)=(0,d) then 0 else 11):=⟨_,rfl⟩
  rw[← hy] at cf
  have hyc:(y=0∧t=(0,za8 d))∨(y=11∧t=(11,zfa)):=by
   by_cases hq:zce (za8 d)=(0,d)
   ·left;rw[hT,hy,if_pos hq,if_pos hq];exact ⟨rfl,rfl⟩
   ·right;rw[hT,hy,if_neg hq,if_neg hq];exact ⟨rfl,rfl⟩
  have hok:=zit d
  clear hW1 hW0 hW hB0 hB1 hBo g0 g1 hT hy hn ht hs0 hs1 hb hd hWr hBr hBr1 gr hsr hZ hZl G1
  rcases hyc with ⟨rfl,ht⟩ | ⟨rfl,ht⟩
  ·have HT:=hide ht
   clear ht
   go_enter Tryz.func81,Tryz.ntmps81
   go_wp2_with (rw[← uh HW])
   refine cf.mono ?_
   rintro e w2 ⟨rfl,⟨⟨po,pc,hB2,ho2⟩,hB3⟩,g2⟩
   obtain ⟨C,hC⟩:∃ C,C=chC (za8 d) po pc:=⟨_,rfl⟩
   rw[← hC] at hB2
   have hCl:C.length=36:=by rw[hC];exact zif _ _ _ hok.1
   have hCo:C.toArray.all (·.oneCell')=true:=by rw[hC];exact all_oneCell_toArray (zig _ _ _)
   have hr2:=zas hB2
   have hiC:(Tryz.prog.info? 156).map (·.size)=some C.length:=by rw[hCl];exact zcg
   have hiC2:(Tryz.prog.info? 156).map (·.size)=some C.toArray.size:=by simpa using hiC
   have hZC:Z.toArray.size=C.toArray.size:=by have:=uh HZL;simp[this,hCl]
   obtain ⟨HIC,HIC2,HZC,HCO,HC,HB2⟩:=zh6 hiC hiC2 hZC hCo hC hB2
   clear cf c0 c1 hiC hiC2 hZC hCo hC hCl hB2 hok
   go_wp2_with (first
    | (refine wpList_load_mid rfl 156 _ rfl (w.heap.size+2) 0 rfl C _ hr2 Tryz.underlying156 rfl (uh HIC) ?_;clear hr2)
    | (refine wpList_store_row rfl 156 _ _ rfl (w.heap.size+1) C.toArray rfl rfl _ _ hB3 (uh HIC2) (uh HZC) (uh HCO) ?_))
   refine bodyPost_ret (zaf rfl _ _ _ _ _ _ _ rfl (hB3.row C) Tryz.underlying156 rfl (uh HIC2)) rfl ?_
   have gF:=zar g2 C.toArray (Or.inl (Nat.le_succ w.heap.size))
   rw[uh HT]
   rw[uh HC] at gF ⊢
   exact ⟨po,pc,0,rfl,rfl,zcr ho2 hB3 (by decide) _,gF⟩
  ·have HT:=hide ht
   clear ht
   go_enter Tryz.func81,Tryz.ntmps81
   go_wp2_with (rw[← uh HW])
   refine cf.mono ?_
   rintro e w2 ⟨rfl,⟨hkp,hB3⟩,g2⟩
   clear cf hkp c0 c1 hok
   go_wp2_with (first
    | (refine zbi rfl 156 _ rfl Z.toArray ?hbs ?_)
    | (refine wpList_store_row rfl 156 _ _ rfl (w.heap.size+1) Z.toArray rfl rfl _ _ hB3 (uh HIZ) rfl (uh HZO) ?_))
   case hbs=>simpa using uh HZB
   refine bodyPost_ret (zaf rfl _ _ _ _ _ _ _ rfl (hB3.row Z) Tryz.underlying156 rfl (uh HIZ)) rfl ?_
   have gF:=zar g2 Z.toArray (Or.inl (Nat.le_succ w.heap.size))
   rw[uh HT]
   rw[uh HZ] at gF ⊢
   exact ⟨none,0,_,rfl,rfl,World.ownsRow_nil _ _ _ _,gF⟩
 ·have cf:=zg5 W1 k 3 (by simpa using hk) ao n c (.func (.func 119) #[] #[.pointer (some ⟨w.heap.size+2,0,none⟩)])
  rw[← hn]
  have ht:telC k d=(2,zfa):=by simp[telC,hk]
  have HT:=hide ht
  clear hW1 hW0 hW hB0 hB1 hBo g0 g1 hn ht hs0 hs1 hb hd hWr hBr hBr1 gr hsr hZ hZl G1
  go_enter Tryz.func81,Tryz.ntmps81
  go_wp2_with (rw[← uh HW])
  refine cf.mono ?_
  rintro e w2 ⟨rfl,g2a⟩
  have g2:=tn (uh HG1) g2a
  have hB3:=(uh HBR).kept g2a (by simp)
  clear cf c0 c1
  go_wp2_with (first
   | (refine zbi rfl 156 _ rfl Z.toArray ?hbs ?_)
   | (refine wpList_store_row rfl 156 _ _ rfl (w.heap.size+1) Z.toArray rfl rfl _ _ hB3 (uh HIZ) rfl (uh HZO) ?_))
  case hbs=>simpa using uh HZB
  refine bodyPost_ret (zaf rfl _ _ _ _ _ _ _ rfl (hB3.row Z) Tryz.underlying156 rfl (uh HIZ)) rfl ?_
  have gF:=zar g2 Z.toArray (Or.inl (Nat.le_succ w.heap.size))
  rw[uh HT]
  rw[uh HZ] at gF ⊢
  exact ⟨none,0,_,rfl,rfl,World.ownsRow_nil _ _ _ _,gF⟩
set_option maxHeartbeats 2000000 in
theorem zne (w:World) (k:Int) (ao:Option Addr) (c:Nat) (d:List UInt8) (hb:Bts w ao c d) (hd:d.length≤100000) :
  Calls Tryz.prog 82 #[.agg #[.int .i64 k,.slice ao d.length c]] w fun e w'=>∃ y,e = .returned (.tuple #[.agg (mkC (telM k d).2).toArray,.int .i64 y])∧y=(telM k d).1∧w.grownBy w' none:=by
 obtain ⟨n,hn⟩:∃ n,n=d.length:=⟨_,rfl⟩
 obtain ⟨Z,hZ⟩:∃ Z:List Value,Z=mkC zga:=⟨_,rfl⟩
 have hzv:∀ w,(zeroValue 160).run Tryz.prog w = .ok (.agg Z.toArray) w:=fun w=>by rw[hZ];kernel_rfl
 have hzb:Tryz.prog.built 160 []=some Z.toArray:=by rw[hZ];kernel_rfl
 have hZl:Z.length=34:=by rw[hZ];rfl
 have hZo:Z.toArray.all (·.oneCell')=true:=by rw[hZ];exact all_oneCell_toArray (zih _)
 obtain ⟨W0,hW0,hB0,g0⟩:∃ W1,W1=w.alloc (.cells #[.int .i64 k,.slice ao n c] 42)∧Blk W1 w.heap.size 42 [.int .i64 k,.slice ao n c]∧w.grownBy W1 none:=zag w _ _
 obtain ⟨Wr,hWr,hBr,gr⟩:∃ W1,W1=W0.alloc (.cells Z.toArray 160)∧Blk W1 W0.heap.size 160 Z∧W0.grownBy W1 none:=zag W0 _ _
 obtain ⟨W1,hW1,hB1,g1⟩:∃ W1,W1=Wr.alloc (.cells Z.toArray 160)∧Blk W1 Wr.heap.size 160 Z∧Wr.grownBy W1 none:=zag Wr _ _
 have hs0:W0.heap.size=w.heap.size+1:=by rw[hW0];simp
 have hsr:Wr.heap.size=w.heap.size+2:=by rw[hWr,hW0];simp
 rw[hs0] at hBr
 rw[hsr] at hB1
 have hBo:=(hB0.kept gr (by simp)).kept g1 (by simp)
 have hBr1:=hBr.kept g1 (by simp)
 have c0:=hBo.cell 0
 have c1:=hBo.cell 1
 simp only[List.getElem?_cons_zero,List.getElem?_cons_succ] at c0 c1
 have G1:=tn (tn g0 gr) g1
 have hs1:W1.heap.size=w.heap.size+3:=by rw[hW1,hWr,hW0];simp
 have hW:W1=((w.alloc (.cells #[.int .i64 k,.slice ao n c] 42)).alloc (.cells Z.toArray 160)).alloc (.cells Z.toArray 160):=by rw[hW1,hWr,hW0]
 have HW:=hide hW
 have hiZ:(Tryz.prog.info? 160).map (·.size)=some Z.toArray.size:=by rw[show Z.toArray.size=34 by simpa using hZl];exact zgk
 obtain ⟨HIZ,HZB,HZO,HBR,HZ,HZL⟩:=zh6 hiZ hzb hZo hBr1 hZ hZl
 have HG1:=hide G1
 clear hiZ hzb hZo
 by_cases hk:k=4
 ·subst hk
  have cf:=zrs w W1 G1 ao c d hb (by omega) (w.heap.size+2) 4 (zcp (zbl d)) (fun V=>znc (w.heap.size+2) (zbl d) V∧Blk V (w.heap.size+1) 160 Z) (fun a b h g=>⟨h.1.none g,h.2.kept g (by simp)⟩)
   (fun V rb bc gu gw hrb hRd hbk=>(zrp w V rb (w.heap.size+2) d (by omega) _ hZl gu (by omega) (by omega) (by omega) hRd (hB1.kept gw (by simp)) W1.heap.size bc hbk (by omega) (by omega) (w.heap.size+1) _ Z (hBr1.kept gw (by simp)) (by omega) (by omega)))
  rw[← hn] at cf
  rw[← hn]
  have hT:telM 4 d=(if zcp (zbl d)=(0,d) then (0,zbl d) else (11,zga)):=by simp[telM]
  obtain ⟨t,ht⟩:∃ t,t=telM 4 d:=⟨_,rfl⟩
  rw[← ht] at hT ⊢
  obtain ⟨y,hy⟩:∃ y:Int,y=(if zcp (zbl d)=(0,d) then 0 else 11):=⟨_,rfl⟩
  rw[← hy] at cf
  have hyc:(y=0∧t=(0,zbl d))∨(y=11∧t=(11,zga)):=by
   by_cases hq:zcp (zbl d)=(0,d)
   ·left;rw[hT,hy,if_pos hq,if_pos hq];exact ⟨rfl,rfl⟩
   ·right;rw[hT,hy,if_neg hq,if_neg hq];exact ⟨rfl,rfl⟩
  have hok:=ziu d
  clear hW1 hW0 hW hB0 hB1 hBo g0 g1 hT hy hn ht hs0 hs1 hb hd hWr hBr hBr1 gr hsr hZ hZl G1
  rcases hyc with ⟨rfl,ht⟩ | ⟨rfl,ht⟩
  ·have HT:=hide ht
   clear ht
   go_enter Tryz.func82,Tryz.ntmps82
   go_wp2_with (rw[← uh HW])
   refine cf.mono ?_
   rintro e w2 ⟨rfl,⟨hB2,hB3⟩,g2⟩
   obtain ⟨C,hC⟩:∃ C,C=mkC (zbl d):=⟨_,rfl⟩
   unfold znc at hB2
   rw[← hC] at hB2
   have hCl:C.length=34:=by rw[hC];exact zki _ hok.1
   have hCo:C.toArray.all (·.oneCell')=true:=by rw[hC];exact all_oneCell_toArray (zih _)
   have hr2:=zas hB2
   have hiC:(Tryz.prog.info? 160).map (·.size)=some C.length:=by rw[hCl];exact zgk
   have hiC2:(Tryz.prog.info? 160).map (·.size)=some C.toArray.size:=by simpa using hiC
   have hZC:Z.toArray.size=C.toArray.size:=by have:=uh HZL;simp[this,hCl]
   obtain ⟨HIC,HIC2,HZC,HCO,HC,HB2⟩:=zh6 hiC hiC2 hZC hCo hC hB2
   clear cf c0 c1 hiC hiC2 hZC hCo hC hCl hB2 hok
   go_wp2_with (first
    | (refine wpList_load_mid rfl 160 _ rfl (w.heap.size+2) 0 rfl C _ hr2 Tryz.underlying160 rfl (uh HIC) ?_;clear hr2)
    | (refine wpList_store_row rfl 160 _ _ rfl (w.heap.size+1) C.toArray rfl rfl _ _ hB3 (uh HIC2) (uh HZC) (uh HCO) ?_))
   refine bodyPost_ret (zaf rfl _ _ _ _ _ _ _ rfl (hB3.row C) Tryz.underlying160 rfl (uh HIC2)) rfl ?_
   have gF:=zar g2 C.toArray (Or.inl (Nat.le_succ w.heap.size))
   rw[uh HT]
   rw[uh HC] at gF ⊢
   exact ⟨0,rfl,rfl,gF⟩
  ·have HT:=hide ht
   clear ht
   go_enter Tryz.func82,Tryz.ntmps82
   go_wp2_with (rw[← uh HW])
   refine cf.mono ?_
   rintro e w2 ⟨rfl,⟨hkp,hB3⟩,g2⟩
   clear cf hkp c0 c1 hok
   go_wp2_with (first
    | (refine zbi rfl 160 _ rfl Z.toArray ?hbs ?_)
    | (refine wpList_store_row rfl 160 _ _ rfl (w.heap.size+1) Z.toArray rfl rfl _ _ hB3 (uh HIZ) rfl (uh HZO) ?_))
   case hbs=>simpa using uh HZB
   refine bodyPost_ret (zaf rfl _ _ _ _ _ _ _ rfl (hB3.row Z) Tryz.underlying160 rfl (uh HIZ)) rfl ?_
   have gF:=zar g2 Z.toArray (Or.inl (Nat.le_succ w.heap.size))
   rw[uh HT]
   rw[uh HZ] at gF ⊢
   exact ⟨_,rfl,rfl,gF⟩
 ·have cf:=zg5 W1 k 4 (by simpa using hk) ao n c (.func (.func 122) #[] #[.pointer (some ⟨w.heap.size+2,0,none⟩)])
  rw[← hn]
  have ht:telM k d=(2,zga):=by simp[telM,hk]
  have HT:=hide ht
  clear hW1 hW0 hW hB0 hB1 hBo g0 g1 hn ht hs0 hs1 hb hd hWr hBr hBr1 gr hsr hZ hZl G1
  go_enter Tryz.func82,Tryz.ntmps82
  go_wp2_with (rw[← uh HW])
  refine cf.mono ?_
  rintro e w2 ⟨rfl,g2a⟩
  have g2:=tn (uh HG1) g2a
  have hB3:=(uh HBR).kept g2a (by simp)
  clear cf c0 c1
  go_wp2_with (first
   | (refine zbi rfl 160 _ rfl Z.toArray ?hbs ?_)
   | (refine wpList_store_row rfl 160 _ _ rfl (w.heap.size+1) Z.toArray rfl rfl _ _ hB3 (uh HIZ) rfl (uh HZO) ?_))
  case hbs=>simpa using uh HZB
  refine bodyPost_ret (zaf rfl _ _ _ _ _ _ _ rfl (hB3.row Z) Tryz.underlying160 rfl (uh HIZ)) rfl ?_
  have gF:=zar g2 Z.toArray (Or.inl (Nat.le_succ w.heap.size))
  rw[uh HT]
  rw[uh HZ] at gF ⊢
  exact ⟨_,rfl,rfl,gF⟩
def zdd (w w' : World) (k:Int) (d:List UInt8) (e:Ending):Prop:=∃ v y,e = .returned (.tuple #[v,.int .i64 y])∧y=zap k d∧w'.ownsRow w.heap.size 47 32 v (zc1 k d).length ((zc1 k d).flatMap (·.map bv))∧w.grownBy w' none
theorem zdd.bad {w w' : World} {k:Int} {d:List UInt8} {y:Int} (hy:zap k d=y) (h0:y≠0) (g:w.grownBy w' none):zdd w w' k d (.returned (.tuple #[.slice none 0 0,.int .i64 y])):=by
 have hl:zc1 k d=[]:=by unfold zc1;rw[hy,if_pos h0]
 exact ⟨_,y,rfl,hy.symm,by rw[hl];exact World.ownsRow_nil _ _ _ _,g⟩
theorem zur (d:List UInt8) (h:d.length≤16384):zap 2 d=(telT 2 d).1∧((telT 2 d).1=0→zc1 2 d=(telT 2 d).2.map (·.id))∧((telT 2 d).1=0∨(telT 2 d).1=11∧(telT 2 d).2=[]):=by
 have h1:¬ 16384<d.length:=by omega
 have hc:zap 2 d=errO (zf6 d):=by simp[zap,h1]
 by_cases hq:za4 (zbo d)=(0,d)
 ·have e1:zf6 d=some (zbo d):=by simp[zf6,hq]
  have e2:telT 2 d=(0,zbo d):=by simp[telT,hq]
  refine ⟨by rw[hc,e1,e2];rfl,fun _ => ?_,by rw[e2];exact Or.inl rfl⟩
  unfold zc1
  rw[hc,e1,e2]
  simp[errO]
 ·have e1:zf6 d=none:=by simp[zf6,hq]
  have e2:telT 2 d=(11,[]):=by simp[telT,hq]
  refine ⟨by rw[hc,e1,e2];rfl,fun h => ?_,by rw[e2];exact Or.inr ⟨rfl,rfl⟩⟩
  rw[e2] at h
  exact absurd h (by decide)
theorem zus (d:List UInt8) (h:d.length≤16384):zap 3 d=(telC 3 d).1∧((telC 3 d).1=0→zc1 3 d=(telC 3 d).2.tree::(telC 3 d).2.pars)∧((telC 3 d).1=0∨(telC 3 d).1=11)∧(telC 3 d).2.tree.length=32∧(∀ x∈(telC 3 d).2.pars,x.length=32)∧(telC 3 d).2.pars.length≤4:=by
 have h1:¬ 16384<d.length:=by omega
 have hc:zap 3 d=errO (zie d):=by simp[zap,h1]
 by_cases hq:zce (za8 d)=(0,d)
 ·have e1:zie d=some (za8 d):=by simp[zie,hq]
  have e2:telC 3 d=(0,za8 d):=by simp[telC,hq]
  have hok:=zit d
  refine ⟨by rw[hc,e1,e2];rfl,fun _ => ?_,by rw[e2];exact Or.inl rfl,by rw[e2];exact hok.1,by rw[e2];exact hok.2.1,by rw[e2];exact hok.2.2.1⟩
  unfold zc1
  rw[hc,e1,e2]
  simp[errO]
 ·have e1:zie d=none:=by simp[zie,hq]
  have e2:telC 3 d=(11,zfa):=by simp[telC,hq]
  refine ⟨by rw[hc,e1,e2];rfl,fun h => ?_,by rw[e2];exact Or.inr rfl,by rw[e2];rfl,by rw[e2];intro x hx;simp[zfa] at hx,by rw[e2];exact Nat.zero_le _⟩
  rw[e2] at h
  exact absurd h (by decide)
theorem zut (d:List UInt8) (h:d.length≤16384):zap 4 d=(telM 4 d).1∧((telM 4 d).1=0→zc1 4 d=[(telM 4 d).2.target])∧((telM 4 d).1=0∨(telM 4 d).1=11)∧(telM 4 d).2.target.length=32:=by
 have h1:¬ 16384<d.length:=by omega
 have hc:zap 4 d=errO (zje d):=by simp[zap,h1]
 by_cases hq:zcp (zbl d)=(0,d)
 ·have e1:zje d=some (zbl d):=by simp[zje,hq]
  have e2:telM 4 d=(0,zbl d):=by simp[telM,hq]
  refine ⟨by rw[hc,e1,e2];rfl,fun _ => ?_,by rw[e2];exact Or.inl rfl,by rw[e2];exact (ziu d).1⟩
  unfold zc1
  rw[hc,e1,e2]
  simp[errO]
 ·have e1:zje d=none:=by simp[zje,hq]
  have e2:telM 4 d=(11,zga):=by simp[telM,hq]
  refine ⟨by rw[hc,e1,e2];rfl,fun h => ?_,by rw[e2];exact Or.inr rfl,by rw[e2];rfl⟩
  rw[e2] at h
  exact absurd h (by decide)
theorem znf (w:World) (k:Int) (hk:k<1∨4<k) (ao:Option Addr) (c:Nat) (d:List UInt8):Calls Tryz.prog 63 #[.agg #[.int .i64 k,.slice ao d.length c]] w fun e w'=>zdd w w' k d e:=by
 have hc:zap k d=2:=by unfold zap;rw[if_pos hk]
 have HC:=hide hc
 obtain ⟨n,hn⟩:∃ n,n=d.length:=⟨_,rfl⟩
 rw[← hn]
 clear hc hn
 by_cases h1:k<1
 ·have g0:w.grownBy (w.alloc (.cells #[.int .i64 k,.slice ao n c] 42)) none:=zad (zaa _ _) _
  clear hk
  go_enter Tryz.func63,Tryz.ntmps63
  go_wp2
  refine bodyPost_ret (v := .tuple #[.slice none 0 0,.int .i64 2]) (by simp[results,Tryz.results63,go_sem]) rfl ?_
  exact zdd.bad (uh HC) (by decide) g0
 ·have h2:4<k:=by omega
  have g0:w.grownBy (w.alloc (.cells #[.int .i64 k,.slice ao n c] 42)) none:=zad (zaa _ _) _
  clear hk
  go_enter Tryz.func63,Tryz.ntmps63
  go_wp2
  refine bodyPost_ret (v := .tuple #[.slice none 0 0,.int .i64 2]) (by simp[results,Tryz.results63,go_sem]) rfl ?_
  exact zdd.bad (uh HC) (by decide) g0
theorem zng (w:World) (k:Int) (h1:¬ k<1) (h4:¬ 4<k) (ao:Option Addr) (c:Nat) (d:List UInt8) (hd:16384<d.length):Calls Tryz.prog 63 #[.agg #[.int .i64 k,.slice ao d.length c]] w fun e w'=>zdd w w' k d e:=by
 have hc:zap k d=3:=by unfold zap;rw[if_neg (by omega),if_pos hd]
 have HC:=hide hc
 obtain ⟨n,hn⟩:∃ n,n=d.length:=⟨_,rfl⟩
 have hd2:(16384:Int)<(n:Int):=by omega
 rw[← hn]
 clear hc hn hd
 have g0:w.grownBy (w.alloc (.cells #[.int .i64 k,.slice ao n c] 42)) none:=zad (zaa _ _) _
 go_enter Tryz.func63,Tryz.ntmps63
 go_wp2
 refine bodyPost_ret (v := .tuple #[.slice none 0 0,.int .i64 3]) (by simp[results,Tryz.results63,go_sem]) rfl ?_
 exact zdd.bad (uh HC) (by decide) g0
theorem zkw (w:World) (ao:Option Addr) (c:Nat) (d:List UInt8) (hd:d.length≤16384):Calls Tryz.prog 63 #[.agg #[.int .i64 1,.slice ao d.length c]] w fun e w'=>zdd w w' 1 d e:=by
 have hc:zap 1 d=0:=by unfold zap;rw[if_neg (by omega),if_neg (by omega)];rfl
 have hl:zc1 1 d=[]:=by unfold zc1;rw[hc];rfl
 obtain ⟨HC,HL⟩:=zh2 hc hl
 obtain ⟨n,hn⟩:∃ n,n=d.length:=⟨_,rfl⟩
 have hd2:¬ (16384:Int)<(n:Int):=by omega
 rw[← hn]
 clear hc hn hd hl
 have g0:w.grownBy (w.alloc (.cells #[.int .i64 1,.slice ao n c] 42)) none:=zad (zaa _ _) _
 go_enter Tryz.func63,Tryz.ntmps63
 go_wp2
 refine bodyPost_ret (v := .tuple #[.slice none 0 0,.int .i64 0]) (by simp[results,Tryz.results63,go_sem]) rfl ?_
 exact ⟨_,0,rfl,(uh HC).symm,by rw[uh HL];exact World.ownsRow_nil _ _ _ _,g0⟩
theorem zdr {w:World} {ops:Array Oper} {rest:List Oper} {o:Oper} {a:Act} {Q:Exit→Act→World→Prop} (hgd:o.guard=none) (s x:Operand)
  (ho:o.op = .call { callee := .builtin .append,args := #[s,x],argTypes := #[59,59] })
  (base:Nat) (v:Value) (n:Nat) (xs:List Value) (hs:a.eval s=v) (hown:w.ownsRow base 47 32 v n xs)
  (ao:Option Addr) (c:Nat) (ps:List (List UInt8)) (hP:Ids w ao c ps) (hx:a.eval x = .slice ao ps.length c) (hn:n+ps.length≤100000) (hbase:base≤w.heap.size)
  (h:∀ v' w',w'.ownsRow base 47 32 v' (n+ps.length) (xs++ps.flatMap (·.map bv))→w.grownBy w' v.ownBlock→wpList Tryz.prog ops Q rest (a.put o.dst v') w'):wpList Tryz.prog ops Q (o::rest) a w:=by
 obtain ⟨i0,hi,hz0,hz1,hz2⟩:=info_parts zim
 cases ao with
 | none =>
  have hz:=hP.zip rfl
  have hx0:ps=[]:=List.eq_nil_of_length_eq_zero hz.1
  have hc0:=hz.2
  subst hx0 hc0
  exact wpList_append_own_none hgd s x 59 ho base 47 i0 32 Tryz.underlying59 hi v n xs hs hown hx (h v w (by simpa using hown) (zaa _ _))
 | some ad =>
  refine wpList_append_own w hgd s x 59 ho base 47 i0 _ 32 32 Tryz.underlying59 hi hz0 hz1 hz2 rfl (by decide) v n xs hs hown ad ps.length c (ps.flatMap (·.map bv)) hx (zdm _ 32 ps (fun x hx=>by simp[hP.ids x hx])) ?_ ?_ (by unfold maxLen;omega) (by omega) hbase (fun v' w' q1 q2 _=>h v' w' q1 q2)
  ·intro j u hu
   have hl:=zdm (fun x:List UInt8=>x.map bv) 32 ps (fun x hx=>by simp[hP.ids x hx])
   have hj:=(List.getElem?_eq_some_iff.1 hu).1
   rw[hl] at hj
   have hq:j / 32<ps.length:=by omega
   have hs2:=hP.shape ad rfl (by omega)
   have hr:=hP.row ad rfl (j / 32) hq
   rw[show j=j / 32*32+j % 32 by omega,zhz (fun x:List UInt8=>x.map bv) 32 ps (fun x hx=>by simp[hP.ids x hx]) (j / 32) (j % 32) hq (by omega)] at hu
   have h5:=hr (j % 32) u hu
   obtain ⟨b,o,sp⟩:=ad
   simp only at hs2 h5
   subst hs2
   rw[Addr.add_lit]
   rw[show o+j=o+j / 32*32+j % 32 by omega]
   exact h5
  ·intro u hu
   obtain ⟨x,_,hx⟩:=List.mem_flatMap.1 hu
   exact za6 _ u hx
end Go.Proofs.YtegbbkgmiklhcaaGreatDoor
