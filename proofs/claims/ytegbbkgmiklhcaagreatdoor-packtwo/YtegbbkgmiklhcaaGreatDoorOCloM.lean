/- Lemmas. -/
import Derived.Test.YtegbbkgmiklhcaaGreatDoorOCloT
namespace Go.Proofs.YtegbbkgmiklhcaaGreatDoor
open Go.RowKit
set_option maxRecDepth 100000
def zl6 (u:World) (vb:Nat) (c:ChgL) (w:World):Prop:=∃ po pc,Blk w vb 156 (chC c po pc)∧w.ownsRow u.heap.size 47 32 (.slice po c.pars.length pc) c.pars.length (c.pars.flatMap (·.map bv))
theorem zl6.none {u:World} {vb:Nat} {c:ChgL} {a b:World} (h:zl6 u vb c a) (g:a.grownBy b none):zl6 u vb c b:=by
 obtain ⟨po,pc,h1,h2⟩:=h
 exact ⟨po,pc,h1.kept g (by simp),za8 h2 g (fun x e=>by cases e)⟩
theorem zg0 (d:List UInt8):(zbi d).tree.length=32∧(∀ x∈(zbi d).pars,x.length=32)∧(zbi d).pars.length≤4∧(zbi d).author.length≤d.length∧(zbi d).text.length≤d.length:=by
 unfold zbi
 simp only
 refine ⟨zbj _ _,znl _ _,?_,?_,?_⟩
 ·rw[zgw];exact Nat.min_le_right _ _
 ·refine Nat.le_trans (zco _ _) (Nat.le_trans (zbc _ _ _) (Nat.le_trans (zc9 _ _) (Nat.le_trans (zbc _ _ _) (zcg _ _ _))))
 ·refine Nat.le_trans (zco _ _) (Nat.le_trans (zbb _ _) (Nat.le_trans (zbc _ _ _) (Nat.le_trans (zc9 _ _) (Nat.le_trans (zbc _ _ _) (zcg _ _ _)))))
set_option maxHeartbeats 2000000 in
theorem znw (u w:World) (rb vb:Nat) (d:List UInt8) (hl:d.length≤1000000) (old:List Value) (ho36:old.length=36) (gu:u.grownBy w none) (hv:u.heap.size≤vb) (hr:u.heap.size≤rb) (hne:rb≠vb) (hR:Rd w rb d 0) (hB:Blk w vb 156 old) (bk:Nat) (bc:List Value) (hbk:Blk w bk 42 bc) (hkr:bk≠rb) (hkv:bk≠vb) (b2:Nat) (t2:TypeId) (cs2:List Value) (hb2:Blk w b2 t2 cs2) (h2r:b2≠rb) (h2v:b2≠vb) :
  Calls Tryz.prog 119 #[.pointer (some ⟨rb,0,none⟩),.pointer (some ⟨vb,0,none⟩)] w fun e w'=>zko u w' 3 (zc6 (zbi d)) (fun V=>(zl6 u vb (zbi d) V∧Blk V b2 t2 cs2)∧Blk V bk 42 bc) e:=by
 have hvl:=hB.lt
 have hbl:=hbk.lt
 have hbl2:=hb2.lt
 have hrl:=hR.lt
 obtain ⟨W1,hW1,hB1,g1⟩:∃ W1,W1=w.alloc (.cells #[.int .i64 0,.slice none 0 0] 42)∧Blk W1 w.heap.size 42 [.int .i64 0,.slice none 0 0]∧w.grownBy W1 none:=zah w _ _
 have cr:=zih W1 rb d hl (hR.kept g1 (Or.inl rfl))
 obtain ⟨k1,k2,k3,k4,k5⟩:=zg0 d
 obtain ⟨cm,hcm⟩:∃ c,c=zbi d:=⟨_,rfl⟩
 rw[← hcm] at cr k1 k2 k3 k4 k5 ⊢
 obtain ⟨HK1,HK2,HK3⟩:=zh3 k1 k2 k3
 have HK4:=hide (Nat.le_trans k4 hl)
 have HK5:=hide (Nat.le_trans k5 hl)
 have HW1:=hide hW1
 have HBV:=hide (hB.kept g1 (by simp))
 have HB1:=hide hB1
 have HK:=hide (hbk.kept g1 (by simp))
 have HJ:=hide (hb2.kept g1 (by simp))
 have HG1:=hide (tn gu g1)
 have hus:u.heap.size≤w.heap.size:=gu.size
 clear hW1 hB g1 hR hcm hB1 gu k1 k2 k3 k4 k5 hl hbk hb2
 go_enter Tryz.func119,Tryz.ntmps119
 go_wp2_with (rw[← uh HW1])
 refine cr.mono ?_
 rintro e w2 ⟨v2,rfl,ho2,g2⟩
 have hs1:w.heap.size<W1.heap.size:=(uh HB1).lt
 obtain ⟨ao,c,hv2⟩:=zb3 ho2
 subst hv2
 have hBv:=(uh HBV).kept g2 (by simp;omega)
 have hBo:=(uh HB1).kept g2 (by simp;omega)
 have hK2:=(uh HK).kept g2 (by simpa using hkr)
 have hJ2:=(uh HJ).kept g2 (by simpa using h2r)
 have G2:u.grownBy w2 none:=zac (uh HG1) g2 (fun x e=>by cases e;exact Or.inl hr)
 have ho2':=zb5 ho2 (uh HG1).size
 obtain ⟨C,hC⟩:∃ C,C=chC cm ao c:=⟨_,rfl⟩
 rw[← zph,← hC]
 have hCl:C.length=36:=by rw[hC];exact zgn _ _ _ (uh HK1)
 have hCo:C.toArray.all (·.oneCell')=true:=by rw[hC];exact all_oneCell_toArray (zgo _ _ _)
 obtain ⟨w3,hw3⟩:∃ V,V=w2.setRow vb C.toArray:=⟨_,rfl⟩
 have hB3:Blk w3 vb 156 C:=by rw[hw3];exact hBv.row _
 have hA3:Blk w3 w.heap.size 42 [.int .i64 0,.slice none 0 0]:=by rw[hw3];exact hBo.row_other _ _ (by omega)
 have hO3:w3.ownsRow u.heap.size 47 32 (.slice ao cm.pars.length c) cm.pars.length (cm.pars.flatMap (·.map bv)):=by rw[hw3];exact zby ho2' hBv (by decide) _
 have G3:u.grownBy w3 none:=by rw[hw3];exact zaq G2 _ (Or.inl hv)
 have hr3:=zal hB3
 have hi3:(Tryz.prog.info? 156).map (·.size)=some C.length:=by rw[hCl];exact zbs
 have hi4:(Tryz.prog.info? 156).map (·.size)=some C.toArray.size:=by simpa using hi3
 have hos:old.toArray.size=C.toArray.size:=by simp[ho36,hCl]
 have hE3:Ids w3 ao c cm.pars:=by
  obtain ⟨ao2,c2,e1,e2⟩:=Ids.own hO3 (uh HK2)
  injection e1 with e3 e4 e5
  subst e3 e5
  exact e2
 have co:=zl3 w3 cm ao c hE3 (uh HK1) (uh HK4) (uh HK5) (by have:=uh HK3;omega)
 rw[← hC] at co
 obtain ⟨HI3,HI4,HOS,HCO,HC,HBV2⟩:=zh6 hi3 hi4 hos hCo hC hBv
 obtain ⟨r,hrr⟩:∃ r,r=zc6 cm:=⟨_,rfl⟩
 rw[← hrr] at co
 obtain ⟨HR,HW3,HB3,HA3,HO3⟩:=zh5 hrr hw3 hB3 hA3 hO3
 have HK3:=hide (show Blk w3 bk 42 bc by rw[hw3];exact hK2.row_other _ _ hkv.symm)
 have HJ3:=hide (show Blk w3 b2 t2 cs2 by rw[hw3];exact hJ2.row_other _ _ h2v.symm)
 have HG3:=hide G3
 clear cr ho2 ho2' hBv hBo G2 hw3 hB3 hA3 hO3 G3 hE3 g2 hrr HG1 HB1 HBV hi3 hi4 hos hCo hC hCl hK2 hJ2
 go_wp2_with (first
  | (refine wpList_store_row rfl 156 _ _ rfl vb C.toArray rfl rfl _ _ (uh HBV2) (uh HI4) (uh HOS) (uh HCO) ?_;rw[← uh HW3])
  | (refine wpList_load_mid rfl 156 _ rfl vb 0 rfl C _ hr3 Tryz.underlying156 rfl (uh HI3) ?_;clear hr3))
 refine co.mono ?_
 rintro e w4 ⟨v4,rfl,hN4,g4⟩
 have hA4:=(uh HA3).kept g4 (by simp)
 have hK4:=(uh HK3).kept g4 (by simp)
 have hJ4:=(uh HJ3).kept g4 (by simp)
 have hB4:=(uh HB3).kept g4 (by simp)
 have hO4:=za8 (uh HO3) g4 (fun x e=>by cases e)
 have G4:=tn (uh HG3) g4
 have h1c:v4.oneCell'=true:=by obtain ⟨_,_,rfl,_⟩:=hN4;rfl
 obtain ⟨x,hx⟩:∃ x:Int,x=r.1:=⟨_,rfl⟩
 rw[← hx]
 obtain ⟨K,hK⟩:∃ K:Int,K=(if x=0 then 3 else 0):=⟨_,rfl⟩
 rw[← hK]
 obtain ⟨HKK,HX⟩:=zh2 hK hx
 clear co hK hx
 rw[uh HC] at hB4
 go_wp2_with (refine wpList_store_row rfl 42 _ _ rfl w.heap.size #[.int .i64 K,v4] rfl rfl _ _ hA4 zam rfl (zdo h1c) ?_)
 refine bodyPost_ret (zag rfl _ _ _ _ _ _ _ rfl (hA4.row [.int .i64 K,v4]) Tryz.underlying42 rfl zam) rfl ?_
 have gF:=zaq (zab w4 (some w.heap.size)) #[.int .i64 K,v4] (Or.inr rfl)
 rw[← uh HR]
 refine ⟨v4,?_,?_,⟨⟨⟨_,_,hB4.row_other _ _ (by omega),zby hO4 hA4 (by decide) _⟩,hJ4.row_other _ _ (by omega)⟩,hK4.row_other _ _ (by omega)⟩,zaq G4 _ (Or.inl hus)⟩
 ·rw[← uh HX,← uh HKK]
  rfl
 ·obtain ⟨a',c',e1,e2,e3⟩:=hN4
  refine ⟨a',c',e1,e2.kept gF ?_⟩
  intro x e ad e5 e4
  cases e
  exact hA4.typ (by decide) (e4 ▸ (e3 ad e5).2)
def zkp (vb:Nat) (m:MrkL) (w:World):Prop:=Blk w vb 160 (mkC m)
theorem zkp.none {vb:Nat} {m:MrkL} {a b:World} (h:zkp vb m a) (g:a.grownBy b none):zkp vb m b:=Blk.kept h g (by simp)
theorem zg1 (d:List UInt8):(zb2 d).target.length=32∧(zb2 d).name.length≤d.length∧(zb2 d).text.length≤d.length:=by
 unfold zb2
 simp only
 refine ⟨zbj _ _,?_,?_⟩
 ·exact Nat.le_trans (zco _ _) (zcg _ _ _)
 ·exact Nat.le_trans (zco _ _) (Nat.le_trans (zbb _ _) (zcg _ _ _))
set_option maxHeartbeats 2000000 in
theorem znx (u w:World) (rb vb:Nat) (d:List UInt8) (hl:d.length≤100000) (old:List Value) (ho36:old.length=34) (gu:u.grownBy w none) (hv:u.heap.size≤vb) (hr:u.heap.size≤rb) (hne:rb≠vb) (hR:Rd w rb d 0) (hB:Blk w vb 160 old) (bk:Nat) (bc:List Value) (hbk:Blk w bk 42 bc) (hkr:bk≠rb) (hkv:bk≠vb) (b2:Nat) (t2:TypeId) (cs2:List Value) (hb2:Blk w b2 t2 cs2) (h2r:b2≠rb) (h2v:b2≠vb) :
  Calls Tryz.prog 122 #[.pointer (some ⟨rb,0,none⟩),.pointer (some ⟨vb,0,none⟩)] w fun e w'=>zko u w' 4 (zdn (zb2 d)) (fun V=>(zkp vb (zb2 d) V∧Blk V b2 t2 cs2)∧Blk V bk 42 bc) e:=by
 have hvl:=hB.lt
 have hbl:=hbk.lt
 have hbl2:=hb2.lt
 have hrl:=hR.lt
 obtain ⟨W1,hW1,hB1,g1⟩:∃ W1,W1=w.alloc (.cells #[.int .i64 0,.slice none 0 0] 42)∧Blk W1 w.heap.size 42 [.int .i64 0,.slice none 0 0]∧w.grownBy W1 none:=zah w _ _
 have cr:=zig W1 rb d (by omega) (hR.kept g1 (Or.inl rfl))
 obtain ⟨k1,k4,k5⟩:=zg1 d
 obtain ⟨m,hcm⟩:∃ c,c=zb2 d:=⟨_,rfl⟩
 rw[← hcm] at cr k1 k4 k5 ⊢
 have HK1:=hide k1
 have HK4:=hide (Nat.le_trans k4 hl)
 have HK5:=hide (Nat.le_trans k5 hl)
 have HW1:=hide hW1
 have HBV:=hide (hB.kept g1 (by simp))
 have HB1:=hide hB1
 have HK:=hide (hbk.kept g1 (by simp))
 have HJ:=hide (hb2.kept g1 (by simp))
 have HG1:=hide (tn gu g1)
 have hus:u.heap.size≤w.heap.size:=gu.size
 clear hW1 hB g1 hR hcm hB1 gu k1 k4 k5 hl hbk hb2
 go_enter Tryz.func122,Tryz.ntmps122
 go_wp2_with (rw[← uh HW1])
 refine cr.mono ?_
 rintro e w2 ⟨rfl,g2⟩
 have hs1:w.heap.size<W1.heap.size:=(uh HB1).lt
 have hBv:=(uh HBV).kept g2 (by simp;omega)
 have hBo:=(uh HB1).kept g2 (by simp;omega)
 have hK2:=(uh HK).kept g2 (by simpa using hkr)
 have hJ2:=(uh HJ).kept g2 (by simpa using h2r)
 have G2:u.grownBy w2 none:=zac (uh HG1) g2 (fun x e=>by cases e;exact Or.inl hr)
 obtain ⟨Z,hZ⟩:∃ Z:List Value,Z=chR (List.replicate 32 0) (.slice none 0 0) 0 [] []:=⟨_,rfl⟩
 have hzv:∀ w,(zeroValue 156).run Tryz.prog w = .ok (.agg Z.toArray) w:=fun w=>by rw[hZ];exact zfi w
 have hZl:Z.length=36:=by rw[hZ];rfl
 obtain ⟨C,hC⟩:∃ C,C=chR m.target (.slice none 0 0) 0 m.name m.text:=⟨_,rfl⟩
 rw[← hC]
 have hCl:C.length=36:=by rw[hC];exact zec _ _ _ _ _ (uh HK1)
 have hCo:C.toArray.all (·.oneCell')=true:=by rw[hC];exact all_oneCell_toArray (zed _ _ _ _ _ rfl)
 obtain ⟨W3,hW3,hBC,g3⟩:=zbg w2 156 Z.toArray C
 obtain ⟨q1,q2,q3,q4⟩:=zbl m.target (.slice none 0 0) 0 m.name m.text (uh HK1)
 rw[← hC] at q3 q4
 have hcn:W3.cell? ⟨w2.heap.size,34,none⟩=some (.string (str m.name)):=by rw[hBC.cell 34,q3]
 have hct:W3.cell? ⟨w2.heap.size,35,none⟩=some (.string (str m.text)):=by rw[hBC.cell 35,q4]
 have hrT:W3.rangeAt w2.heap.size 0 (m.target.map bv):=by
  have h1:=zal hBC
  rw[hC] at h1
  exact zgr (c:=⟨m.target,[],0,m.name,m.text⟩) (po:=none) (pc:=0) h1
 have hiC:(Tryz.prog.info? 156).map (·.size)=some C.toArray.size:=by rw[show C.toArray.size=36 by simpa using hCl];exact zbs
 have hZC:Z.toArray.size=C.toArray.size:=by simp[hZl,hCl]
 have hBv3:=hBv.kept g3 (by simp)
 have hBo3:=hBo.kept g3 (by simp)
 have G3a:=tn G2 g3
 have hbt:Tryz.prog.built 160 [(0,.agg (m.target.map bv).toArray),(1,.string (str m.name)),(2,.string (str m.text))]=some (mkC m).toArray:=zlw m.target (str m.name) (str m.text) (uh HK1)
 have hiT:(Tryz.prog.info? 47).map (·.size)=some (m.target.map bv).length:=by rw[List.length_map,uh HK1];exact zax
 obtain ⟨TG,hTG⟩:∃ T,T=m.target.map bv:=⟨_,rfl⟩
 rw[← hTG] at hrT hbt hiT
 obtain ⟨MC,hMC⟩:∃ T,T=mkC m:=⟨_,rfl⟩
 rw[← hMC] at hbt
 have hMl:MC.length=34:=by rw[hMC];exact zie _ (uh HK1)
 have hMo:MC.toArray.all (·.oneCell')=true:=by rw[hMC];exact all_oneCell_toArray (zgp _)
 obtain ⟨N,hN⟩:∃ N,N=str m.name:=⟨_,rfl⟩
 obtain ⟨X,hX⟩:∃ N,N=str m.text:=⟨_,rfl⟩
 rw[← hN] at hcn hbt
 rw[← hX] at hct hbt
 obtain ⟨w3,hw3⟩:∃ V,V=W3.setRow vb MC.toArray:=⟨_,rfl⟩
 have hB3:Blk w3 vb 160 MC:=by rw[hw3];exact hBv3.row _
 have hA3:Blk w3 w.heap.size 42 [.int .i64 0,.slice none 0 0]:=by rw[hw3];exact hBo3.row_other _ _ (by omega)
 have G3:u.grownBy w3 none:=by rw[hw3];exact zaq G3a _ (Or.inl hv)
 have hr3:=zal hB3
 have hi3:(Tryz.prog.info? 160).map (·.size)=some MC.length:=by rw[hMl];exact zex
 have hi4:(Tryz.prog.info? 160).map (·.size)=some MC.toArray.size:=by simpa using hi3
 have hos:old.toArray.size=MC.toArray.size:=by simp[ho36,hMl]
 have co:=zl4 w3 m (uh HK1) (uh HK4) (by have:=uh HK5;omega)
 rw[← hMC] at co
 obtain ⟨HI3,HI4,HOS,HMO,HMC,HBV2⟩:=zh6 hi3 hi4 hos hMo hMC hBv3
 obtain ⟨HWC,HIC,HZC,HCO,HIT,HBT⟩:=zh6 hW3 hiC hZC hCo hiT hbt
 obtain ⟨r,hrr⟩:∃ r,r=zdn m:=⟨_,rfl⟩
 rw[← hrr] at co
 obtain ⟨HR,HW3,HB3,HA3⟩:=zh4 hrr hw3 hB3 hA3
 have HK3:=hide (show Blk w3 bk 42 bc by rw[hw3];exact (hK2.kept g3 (by simp)).row_other _ _ hkv.symm)
 have HJ3:=hide (show Blk w3 b2 t2 cs2 by rw[hw3];exact (hJ2.kept g3 (by simp)).row_other _ _ h2v.symm)
 have HG3:=hide G3
 clear cr hBv hBo G2 hw3 hB3 hA3 G3 g2 hrr HG1 HB1 HBV hi3 hi4 hos hMo hMC hMl hW3 hiC hZC hCo hiT hbt hBv3 hBo3 G3a g3 hBC hC hCl hZ hZl q1 q2 q3 q4 hTG hN hX hK2 hJ2
 go_wp2_with (first
  | (refine wpList_load_mid rfl 47 _ rfl w2.heap.size 0 rfl TG _ hrT Tryz.underlying47 rfl (uh HIT) ?_;clear hrT)
  | (refine wpList_load_mid rfl 160 _ rfl vb 0 rfl MC _ hr3 Tryz.underlying160 rfl (uh HI3) ?_;clear hr3)
  | (refine wpList_store_row rfl 156 _ _ rfl w2.heap.size C.toArray rfl rfl _ _ (heap_alloc_new _ _) (uh HIC) (uh HZC) (uh HCO) ?_;rw[← uh HWC])
  | (refine wpList_store_row rfl 160 _ _ rfl vb MC.toArray rfl rfl _ _ (uh HBV2) (uh HI4) (uh HOS) (uh HMO) ?_;rw[← uh HW3])
  | (refine za3 rfl 160 _ rfl MC.toArray ?hbs ?_))
 case hbs=>simpa using uh HBT
 refine co.mono ?_
 rintro e w4 ⟨v4,rfl,hN4,g4⟩
 have hA4:=(uh HA3).kept g4 (by simp)
 have hK4:=(uh HK3).kept g4 (by simp)
 have hJ4:=(uh HJ3).kept g4 (by simp)
 have hB4:=(uh HB3).kept g4 (by simp)
 have G4:=tn (uh HG3) g4
 have h1c:v4.oneCell'=true:=by obtain ⟨_,_,rfl,_⟩:=hN4;rfl
 obtain ⟨x,hx⟩:∃ x:Int,x=r.1:=⟨_,rfl⟩
 rw[← hx]
 obtain ⟨K,hK⟩:∃ K:Int,K=(if x=0 then 4 else 0):=⟨_,rfl⟩
 rw[← hK]
 obtain ⟨HKK,HX⟩:=zh2 hK hx
 clear co hK hx
 rw[uh HMC] at hB4
 go_wp2_with (refine wpList_store_row rfl 42 _ _ rfl w.heap.size #[.int .i64 K,v4] rfl rfl _ _ hA4 zam rfl (zdo h1c) ?_)
 refine bodyPost_ret (zag rfl _ _ _ _ _ _ _ rfl (hA4.row [.int .i64 K,v4]) Tryz.underlying42 rfl zam) rfl ?_
 have gF:=zaq (zab w4 (some w.heap.size)) #[.int .i64 K,v4] (Or.inr rfl)
 rw[← uh HR]
 refine ⟨v4,?_,?_,⟨⟨hB4.row_other _ _ (by omega),hJ4.row_other _ _ (by omega)⟩,hK4.row_other _ _ (by omega)⟩,zaq G4 _ (Or.inl hus)⟩
 ·rw[← uh HX,← uh HKK]
  rfl
 ·obtain ⟨a',c',e1,e2,e3⟩:=hN4
  refine ⟨a',c',e1,e2.kept gF ?_⟩
  intro x e ad e5 e4
  cases e
  exact hA4.typ (by decide) (e4 ▸ (e3 ad e5).2)
end Go.Proofs.YtegbbkgmiklhcaaGreatDoor
