/- Lemmas. -/
import Derived.Test.YtegbbkgmiklhcaaGreatDoorORdE
namespace Go.Proofs.YtegbbkgmiklhcaaGreatDoor
open Go.RowKit
def chR (t:List UInt8) (v:Value) (n:Nat) (a x:List UInt8):List Value:=t.map bv++[v,.int .u64 (n:Int),.string (str a),.string (str x)]
theorem zph (c:ChgL) (po:Option Addr) (pc:Nat):chC c po pc=chR c.tree (.slice po c.pars.length pc) c.time c.author c.text:=rfl
theorem zec (t:List UInt8) (v:Value) (n:Nat) (a x:List UInt8) (h:t.length=32):(chR t v n a x).length=36:=by simp[chR,h]
theorem zbl (t:List UInt8) (v:Value) (n:Nat) (a x:List UInt8) (h:t.length=32):(chR t v n a x)[32]? = some v∧(chR t v n a x)[33]? = some (.int .u64 (n:Int))∧(chR t v n a x)[34]? = some (.string (str a))∧(chR t v n a x)[35]? = some (.string (str x)):=by
 have hl:(t.map bv).length=32:=by simp[h]
 unfold chR
 refine ⟨?_,?_,?_,?_⟩ <;> rw[List.getElem?_append_right (by omega),hl] <;> rfl
theorem zbu (t:List UInt8) (v v' : Value) (n n' : Nat) (a a' x x' : List UInt8) (h:t.length=32):(chR t v n a x).set 32 v'=chR t v' n a x∧(chR t v n a x).set 33 (.int .u64 (n' : Int))=chR t v n' a x∧(chR t v n a x).set 34 (.string (str a'))=chR t v n a' x∧(chR t v n a x).set 35 (.string (str x'))=chR t v n a x':=by
 have hl:(t.map bv).length=32:=by simp[h]
 unfold chR
 refine ⟨?_,?_,?_,?_⟩ <;> rw[List.set_append_right _ _ (by omega),hl] <;> rfl
theorem zed (t:List UInt8) (v:Value) (n:Nat) (a x:List UInt8) (hv:v.oneCell'=true):∀ u∈chR t v n a x,u.oneCell'=true:=by
 intro u hu
 simp only[chR,List.mem_append,List.mem_cons,List.not_mem_nil,or_false] at hu
 rcases hu with hu | rfl | rfl | rfl | rfl
 ·exact zaw _ u hu
 ·exact hv
 all_goals rfl
theorem Rd.blk {w:World} {rb p:Nat} {l:List UInt8} {e:Int} {cs:List Value} {t:TypeId} (h:Rd w rb l e) (hB:Blk w p t cs) (ht:t≠5) (hp:p≠rb) (j:Nat) (v:Value):Rd (w.setCell ⟨p,j,none⟩ v) rb l e :=
 h.keptTyp (zdj w p j v) (fun x e=>by cases e;exact ⟨hp,hB.typ ht⟩)
theorem zgw (s:List UInt8 × Int) (j:Nat):(runP s j).1.length=j:=by
 induction j with
 | zero=>rfl
 | succ j ih=>rw[runP,zlt];simp[ih]
theorem znl (s:List UInt8 × Int) (j:Nat):∀ x∈(runP s j).1,x.length=32:=by
 induction j with
 | zero=>intro e he;simp[runP] at he
 | succ j ih =>
  intro e he
  rw[runP,zlt] at he
  simp only[List.mem_append,List.mem_singleton] at he
  rcases he with he | rfl
  ·exact ih e he
  ·exact zbj _ _
theorem zc9 (s:List UInt8 × Int) (j:Nat):(runP s j).2.1.length≤s.1.length:=by
 induction j with
 | zero=>exact Nat.le_refl _
 | succ j ih =>
  rw[runP,zlt]
  exact Nat.le_trans (zcg _ _ _) ih
theorem zf8 {s:List UInt8 × Int} {j:Nat} {ps:List (List UInt8)} {l' : List UInt8} {e' : Int} (h:runP s j=(ps,l',e')) {y l3:List UInt8} {e3:Int} (h3:rawS l' e' 32=(y,l3,e3)):runP s (j+1)=(ps++[zb1 y],l3,e3):=by
 rw[runP,h,zlt]
 simp only[h3]
theorem zfi (w:World):(zeroValue 156).run Tryz.prog w = .ok (.agg (chR (List.replicate 32 0) (.slice none 0 0) 0 [] []).toArray) w:=by kernel_rfl
set_option maxRecDepth 100000 in
set_option maxHeartbeats 4000000 in
theorem zig (w:World) (rb:Nat) (d:List UInt8) (hl:d.length≤1000000) (h:Rd w rb d 0) :
  Calls Tryz.prog 120 #[.int .i64 4,.pointer (some ⟨rb,0,none⟩)] w fun e w'=>e = .returned (.agg (chR (zb2 d).target (.slice none 0 0) 0 (zb2 d).name (zb2 d).text).toArray)∧w.grownBy w' (some rb):=by
 have hRM:zb2 d=⟨zb1 (rawS d 0 32).1,(zak (rawS d 0 32).2.1 (rawS d 0 32).2.2).1,(zak (zak (rawS d 0 32).2.1 (rawS d 0 32).2.2).2.1 (zak (rawS d 0 32).2.1 (rawS d 0 32).2.2).2.2).1⟩:=rfl
 rw[hRM]
 clear hRM
 simp only
 have hrb:=h.lt
 obtain ⟨Z,hZ⟩:∃ Z:List Value,Z=chR (List.replicate 32 0) (.slice none 0 0) 0 [] []:=⟨_,rfl⟩
 have hzv:∀ w,(zeroValue 156).run Tryz.prog w = .ok (.agg Z.toArray) w:=fun w=>by rw[hZ];exact zfi w
 have hZl:Z.length=36:=by rw[hZ];rfl
 obtain ⟨W1,hW1,hB1,g1⟩:∃ W1,W1=w.alloc (.cells Z.toArray 156)∧Blk W1 w.heap.size 156 Z∧w.grownBy W1 none:=zah w _ _
 have ci:=zca W1 rb d 0 (by omega) (h.kept g1 (Or.inl rfl))
 have hl1:=zcg d 0 32
 have hT32:=zbj d 0
 obtain ⟨⟨t0,l1,e1⟩,ha⟩:∃ a,a=rawS d 0 32:=⟨_,rfl⟩
 rw[← ha] at ci hl1 hT32 ⊢
 simp only at ci hl1 hT32 ⊢
 clear ha
 obtain ⟨T,hT⟩:∃ T,T=zb1 t0:=⟨_,rfl⟩
 rw[← hT] at ci hT32 ⊢
 have hbt:Tryz.prog.built 156 [(0,.agg (T.map bv).toArray)]=some (chR T (.slice none 0 0) 0 [] []).toArray:=zf6 T hT32
 obtain ⟨TV,hTV⟩:∃ V,V=Value.agg (T.map bv).toArray:=⟨_,rfl⟩
 rw[← hTV] at ci hbt
 obtain ⟨CB,hCB⟩:∃ L,L=chR T (.slice none 0 0) 0 [] []:=⟨_,rfl⟩
 rw[← hCB] at hbt
 have hCl:CB.length=36:=by rw[hCB];exact zec _ _ _ _ _ hT32
 have hCo:CB.toArray.all (·.oneCell')=true:=by rw[hCB];exact all_oneCell_toArray (zed _ _ _ _ _ rfl)
 obtain ⟨HW1,HB1,HG1,HZL,HBT,HCB⟩:=zh6 hW1 hB1 g1 hZl hbt hCB
 obtain ⟨HCO,HCL,HT32⟩:=zh3 hCo hCl hT32
 clear hZ hZl hW1 hB1 g1 hT hbt hTV hCB hCl hCo hT32 h
 obtain ⟨la,hla⟩:∃ l,l=l1:=⟨_,rfl⟩
 obtain ⟨ea,hea⟩:∃ e,e=e1:=⟨_,rfl⟩
 rw[← hla] at hl1
 rw[← hla,← hea] at ci ⊢
 clear hla hea
 obtain ⟨⟨nm,lb1,eb1⟩,hnm⟩:∃ a,a=zak la ea:=⟨_,rfl⟩
 have hlb:=zbb la ea
 rw[← hnm] at hlb ⊢
 simp only at hlb ⊢
 obtain ⟨⟨tx,lc1,ec1⟩,htx⟩:∃ a,a=zak lb1 eb1:=⟨_,rfl⟩
 rw[← htx]
 simp only
 obtain ⟨HNM,HTX⟩:=zh2 hnm htx
 clear hnm htx
 go_enter Tryz.func120,Tryz.ntmps120
 go_wp2_with (rw[← uh HW1])
 refine ci.mono ?_
 rintro e w2 ⟨rfl,hR2,g2⟩
 clear ci
 obtain ⟨W3,hW3,hB3,g3⟩:=zbg w2 156 Z.toArray CB
 have G2:w.grownBy w2 (some rb):=zac (zao _ (uh HG1)) g2 (fun x e=>Or.inr e)
 have hA2:=(uh HB1).kept g2 (by simp;omega)
 have HA3:=hide (hA2.kept g3 (by simp))
 have HR3:=hide (hR2.kept g3 (Or.inl rfl))
 have HG3:=hide (tn G2 g3)
 have hps:w.heap.size<w2.heap.size:=hA2.lt
 have hp2:rb<w2.heap.size:=hR2.lt
 obtain ⟨p,hp⟩:∃ p,p=w2.heap.size:=⟨_,rfl⟩
 rw[← hp] at hB3 hps hp2 hW3
 have HB3:Hid (Blk W3 p 156 (chR T (.slice none 0 0) 0 [] [])):=by rw[← uh HCB];exact hB3
 obtain ⟨HP,HW3⟩:=zh2 hp hW3
 have hi36:(Tryz.prog.info? 156).map (·.size)=some CB.toArray.size:=by rw[show CB.toArray.size=36 by simpa using uh HCL];exact zbs
 have HI36:=hide hi36
 have hZ36:Z.toArray.size=CB.toArray.size:=by rw[show CB.toArray.size=36 by simpa using uh HCL];simpa using uh HZL
 have HZ36:=hide hZ36
 clear hW3 hB3 g3 G2 hA2 hR2 g2 hp hi36 hZ36
 go_wp2_with (first
  | (refine za3 rfl 156 _ rfl CB.toArray ?hbs ?_)
  | (refine wpList_store_row rfl 156 _ _ rfl w2.heap.size CB.toArray rfl rfl _ _ (heap_alloc_new _ _) (uh HI36) (uh HZ36) (uh HCO) ?_;rw[← uh HP,← uh HW3]))
 case hbs=>simpa using uh HBT
 obtain ⟨wa,hwa⟩:∃ V,V=W3:=⟨_,rfl⟩
 obtain ⟨TM,hTM⟩:∃ n:Nat,n=0:=⟨_,rfl⟩
 obtain ⟨PV,hPV⟩:∃ V:Value,V = .slice none 0 0:=⟨_,rfl⟩
 have hPo:PV.oneCell'=true:=by rw[hPV];rfl
 have hBa:Blk wa p 156 (chR T PV TM [] []):=by rw[hwa,hTM,hPV];exact uh HB3
 have hAa:Blk wa w.heap.size 156 Z:=by rw[hwa];exact uh HA3
 have hRa:Rd wa rb la ea:=by rw[hwa];exact uh HR3
 have Ga:w.grownBy wa (some rb):=by rw[hwa];exact uh HG3
 obtain ⟨HWA,HTM,HPV⟩:=zh3 hwa hTM hPV
 clear hwa hTM hPV HB3 HA3 HR3 HG3
 have cs1:=zb0 wa rb la ea (by omega) hRa
 rw[← uh HWA]
 rw[← uh HNM] at cs1
 simp only at cs1
 refine cs1.mono ?_
 rintro e wb1 ⟨v1,rfl,⟨ao1,k1,rfl,hb1,hn1⟩,hR1,g1⟩
 have hcv1:=za6 hb1
 have hBb1:=hBa.kept g1 (by simp;omega)
 have hAb1:=hAa.kept g1 (by simp;omega)
 have Gb1:w.grownBy wb1 (some rb):=zac Ga g1 (fun x e=>Or.inr e)
 have hc1:=hBb1.cell 34
 rw[(zbl _ _ _ _ _ (uh HT32)).2.2.1] at hc1
 have hf1:=hBb1.fz 34
 obtain ⟨wc1,hwc1⟩:∃ V,V=wb1.setCell ⟨p,34,none⟩ (.string (str nm)):=⟨_,rfl⟩
 have hBc1:Blk wc1 p 156 (chR T PV TM nm []):=by
  have:=hBb1.set 34 (.string (str nm))
  rw[(zbu _ _ (.slice none 0 0) _ 0 _ nm _ nm (uh HT32)).2.2.1] at this
  rw[hwc1];exact this
 have hAc1:Blk wc1 w.heap.size 156 Z:=by rw[hwc1];exact hAb1.other _ _ (by simp;omega)
 have hRc1:Rd wc1 rb lb1 eb1:=by rw[hwc1];exact hR1.blk hBb1 (by decide) (by omega) 34 _
 have Gc1:w.grownBy wc1 (some rb):=by rw[hwc1];exact zae Gb1 _ _ (Or.inl (by simp;omega))
 have HWC1:=hide hwc1
 clear cs1 hb1 hn1 hR1 g1 hBb1 hAb1 Gb1 hwc1 hBa hAa Ga hRa
 have cs2:=zb0 wc1 rb lb1 eb1 (by omega) hRc1
 rw[← uh HTX] at cs2
 simp only at cs2
 have hBc1':=hide hBc1
 go_wp2_with (rw[← uh HWC1])
 clear hcv1 hc1 hf1
 refine cs2.mono ?_
 rintro e wb2 ⟨v2,rfl,⟨ao2,k2,rfl,hb2,hn2⟩,hR2,g2⟩
 have hcv2:=za6 hb2
 have hBb2:=hBc1.kept g2 (by simp;omega)
 have hAb2:=hAc1.kept g2 (by simp;omega)
 have Gb2:w.grownBy wb2 (some rb):=zac Gc1 g2 (fun x e=>Or.inr e)
 have hc2:=hBb2.cell 35
 rw[(zbl _ _ _ _ _ (uh HT32)).2.2.2] at hc2
 have hf2:=hBb2.fz 35
 obtain ⟨wc2,hwc2⟩:∃ V,V=wb2.setCell ⟨p,35,none⟩ (.string (str tx)):=⟨_,rfl⟩
 have hBc2:Blk wc2 p 156 (chR T PV TM nm tx):=by
  have:=hBb2.set 35 (.string (str tx))
  rw[(zbu _ _ (.slice none 0 0) _ 0 _ tx _ tx (uh HT32)).2.2.2] at this
  rw[hwc2];exact this
 have hAc2:Blk wc2 w.heap.size 156 Z:=by rw[hwc2];exact hAb2.other _ _ (by simp;omega)
 have hRc2:Rd wc2 rb lc1 ec1:=by rw[hwc2];exact hR2.blk hBb2 (by decide) (by omega) 35 _
 have Gc2:w.grownBy wc2 (some rb):=by rw[hwc2];exact zae Gb2 _ _ (Or.inl (by simp;omega))
 have HWC2:=hide hwc2
 clear cs2 hb2 hn2 hR2 g2 hBb2 hAb2 Gb2 hwc2 hBc1 hAc1 Gc1 hRc1
 have hrF:=zal hBc2
 obtain ⟨FC,hFC⟩:∃ L,L=chR T PV TM nm tx:=⟨_,rfl⟩
 have hF36:FC.length=36:=by rw[hFC];exact zec _ _ _ _ _ (uh HT32)
 have hFo:FC.toArray.all (·.oneCell')=true:=by rw[hFC];exact all_oneCell_toArray (zed _ _ _ _ _ hPo)
 rw[← hFC] at hrF
 have hiF:(Tryz.prog.info? 156).map (·.size)=some FC.length:=by rw[hF36];exact zbs
 have hiF2:(Tryz.prog.info? 156).map (·.size)=some FC.toArray.size:=by simpa using hiF
 have hZF:Z.toArray.size=FC.toArray.size:=by have:=uh HZL;simp[this,hF36]
 obtain ⟨HIF,HIF2,HZF,HFO,HFC⟩:=zh5 hiF hiF2 hZF hFo hFC
 clear hFC hF36 hFo hiF hiF2 hZF
 go_wp2_with (first
  | (rw[← uh HWC2];refine wpList_load_mid rfl 156 _ rfl p 0 rfl FC _ hrF Tryz.underlying156 rfl (uh HIF) ?_;clear hrF)
  | (refine wpList_store_row rfl 156 _ _ rfl w.heap.size FC.toArray rfl rfl _ _ hAc2 (uh HIF2) (uh HZF) (uh HFO) ?_))
 refine bodyPost_ret (results_cell_row rfl _ _ _ _ _ _ _ rfl (hAc2.row FC) Tryz.underlying156 rfl (uh HIF2)) rfl ?_
 have gF:=zaq Gc2 FC.toArray (Or.inl (Nat.le_refl _))
 rw[uh HFC] at gF ⊢
 rw[uh HPV,uh HTM] at gF ⊢
 exact ⟨rfl,gF⟩
end Go.Proofs.YtegbbkgmiklhcaaGreatDoor
