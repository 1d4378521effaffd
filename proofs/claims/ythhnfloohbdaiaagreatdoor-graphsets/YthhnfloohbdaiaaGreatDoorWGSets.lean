/- Lemmas. -/
import Derived.Test.YthhnfloohbdaiaaGreatDoorGBuild
import Derived.Test.YthhnfloohbdaiaaGreatDoorGClo
import Derived.Test.YthhnfloohbdaiaaGreatDoorGSame
import Derived.Test.YthhnfloohbdaiaaGreatDoorGOne
import Derived.Deep.DeepCutAuto
namespace Go.Proofs.YthhnfloohbdaiaaGreatDoor
open Go.RowKit
set_option maxRecDepth 100000 in
set_option maxHeartbeats 8000000 in
theorem ztp (w:World) (ao:Option Addr) (ac n:Nat) (cb:Calls Tryz.prog 9 #[.slice ao n ac] w fun e w'=>zyz w w' e) (bo:Option Addr) (bc:Nat) (P:List Int) (hP:Nts w bo bc P) (hT:Tabs w) :
  Calls Tryz.prog 3 #[.slice ao n ac,.slice bo P.length bc] w fun e w'=>e = .returned (.bool true)∧w.grownBy w' none:=by
 have hzv:=ze8
 have hzo:=zc6
 obtain ⟨Z,hZ,hzi⟩:=zdo
 obtain ⟨HZ,HP,HT⟩:=zh3 hZ hP hT
 obtain ⟨dn,hdn⟩:∃ d,d=P.length:=⟨_,rfl⟩
 rw[← hdn]
 have HDN:=hide hdn
 clear hP hT hZ hdn
 go_enter Tryz.func3,Tryz.ntmps3
 go_wp2_with fail
 refine cb.mono ?_
 rintro e w1 ⟨sb,mb,a1,a2,ia,n1,n2,c1,c2,ic,S,IL,rfl,hb⟩
 clear cb
 obtain ⟨W2,hW2,hB2,g2⟩:=zbb w1 28 #[.slice none 0 0,.slice none 0 0] [.slice a1 n1 c1,.slice a2 n2 c2]
 have hk2:=hb.gk hB2 g2
 have hI24:=hb.few
 have hS24:=hb.sew
 have HRB:Hid (w.heap.size≤w1.heap.size):=hb.g.size
 have HWI:=hide hb.wid
 obtain ⟨m,hm⟩:∃ m,m=IL.length:=⟨_,rfl⟩
 rw[← hm] at hk2 hI24 ⊢
 obtain ⟨HM,HK2,HW2⟩:=zh3 hm hk2 hW2
 have HB2:=hide (Blk.new w1 28 [.slice none 0 0,.slice none 0 0])
 clear hb hW2 hB2 g2 hk2 hm
 go_wp2_with (refine wpList_store_row rfl 28 _ _ rfl w1.heap.size _ rfl rfl _ _ (uh HB2) zaq rfl (zbn _ _ _ _ _ _) ?_;rw[← uh HW2])
 go_loopw [8,9,10,11,12] (fun i _a _b _c _d wr=>∃ (j:Nat) (S1:List ObE) (x1 x2:Option Addr) (y1 y2 z1 z2:Nat),i = .int .i64 j∧j≤10∧S1.length≤24∧Gk w wr sb mb w1.heap.size (.slice x1 y1 z1) (.slice x2 y2 z2) S1 [(.slice ia m ic,IL)]) (fun i _ _ _ _ _=>11 - (intOf i).toNat)
 case atStart=>exact ⟨0,S,a1,a2,n1,n2,c1,c2,rfl,by omega,hS24,uh HK2⟩
 case round =>
  clear HK2 HW2 HB2
  obtain ⟨j,S1,x1,x2,y1,y2,z1,z2,rfl,hj,hS1,hk⟩:=hrel
  have HK:=hide hk
  clear hk
  by_cases hgo:j<dn∧j<10∧0<m
  ·obtain ⟨q1,q2,q3⟩:=hgo
   have q1i:(j:Int)<(dn:Int):=by omega
   have q2i:(j:Int)<10:=by omega
   have q3i:(0:Int)<(m:Int):=by omega
   have hmn:¬ (m:Int)=0:=by omega
   have hmm:¬ m=0:=by omega
   obtain ⟨bb,bf,hbo,hcb⟩:=((uh HP).kept (uh HK).g).at j (by rw[← uh HDN];exact q1)
   obtain ⟨z,hz⟩:∃ z,z=P[j]'(by rw[← uh HDN];exact q1):=⟨_,rfl⟩
   rw[← hz] at hcb
   obtain ⟨r,s,q,e1,e2,e3,hq⟩:=zsi z m q3 (by omega)
   have hqI:q<IL.length:=by have:=uh HM;omega
   obtain ⟨ib,io,hia,hrow⟩:=((uh HK).rows (.slice ia m ic,IL) (by simp)).at q hqI
   have hx32:=uh HWI _ (List.getElem_mem hqI)
   obtain ⟨x,hx⟩:∃ x,x=IL[q]:=⟨_,rfl⟩
   rw[← hx] at hrow hx32
   obtain ⟨XB,hXB⟩:=kyb x hx32
   rw[← hXB.e] at hrow
   obtain ⟨W4,hW4,hB4,g4⟩:=zbb wr 33 Z XB
   have hBZ:Blk (wr.alloc (.cells Z 33)) wr.heap.size 33 Z.toList:=by simpa using Blk.new wr 33 Z.toList
   have hk4:=(uh HK).none g4
   have cc:=zqf w W4 sb mb S1 hk4.s
   obtain ⟨HXB,HROW,HX32,HW4,HB4,HBZ⟩:=zh6 hXB hrow hx32 hW4 hB4 hBZ
   have HK4:=hide hk4
   clear hz hx hXB hrow hx32 hW4 hB4 hBZ g4 hk4 hqI
   subst hbo hia
   go_upto_region 5 with fail
   refine za7 fun O hO => ?_
   refine zaa (by rw[hO];kernel_rfl) (.int .i64 ((j:Int))) (fun K9 hK9=>by go_simp;exact hK9) ?_
   (try simp only[pq])
   refine zaa (by rw[hO];kernel_rfl) (.slice (some ⟨bb,bf,none⟩) dn bc) (fun K9 hK9=>by go_simp;exact hK9) ?_
   (try simp only[pq])
   refine zaa (by rw[hO];kernel_rfl) (.int .i64 (dn:Int)) (fun K9 hK9=>by go_simp;exact hK9) ?_
   (try simp only[pq])
   refine zaa (by rw[hO];kernel_rfl) (.bool true) (fun K9 hK9=>by go_simp;exact hK9) ?_
   (try simp only[pq])
   refine zaa (by rw[hO];kernel_rfl) (.bool true) (fun K9 hK9=>by go_simp;exact hK9) ?_
   (try simp only[pq])
   refine zaa (by rw[hO];kernel_rfl) (.int .i64 ((j:Int))) (fun K9 hK9=>by go_simp;exact hK9) ?_
   (try simp only[pq])
   refine zaa (by rw[hO];kernel_rfl) (.bool true) (fun K9 hK9=>by go_simp;exact hK9) ?_
   (try simp only[pq])
   refine zaa (by rw[hO];kernel_rfl) (.bool true) (fun K9 hK9=>by go_simp;exact hK9) ?_
   (try simp only[pq])
   refine zaa (by rw[hO];kernel_rfl) (.bool true) (fun K9 hK9=>by go_simp;exact hK9) ?_
   (try simp only[pq])
   refine zaa (by rw[hO];kernel_rfl) (.slice (some ⟨ib,io,none⟩) m ic) (fun K9 hK9=>by go_simp;exact hK9) ?_
   (try simp only[pq])
   refine zaa (by rw[hO];kernel_rfl) (.int .i64 (m:Int)) (fun K9 hK9=>by go_simp;exact hK9) ?_
   (try simp only[pq])
   refine zaa (by rw[hO];kernel_rfl) (.bool true) (fun K9 hK9=>by go_simp;exact hK9) ?_
   (try simp only[pq])
   refine zaa (by rw[hO];kernel_rfl) (.bool true) (fun K9 hK9=>by go_simp;exact hK9) ?_
   (try simp only[pq])
   go_wp2_with (first
    | (refine wpList_load_mid rfl 33 _ rfl ib (io+q*32) rfl XB _ (uh HROW) Tryz.underlying33 rfl (uh HXB).info ?_)
    | (have hBB:=uh HBZ;refine wpList_store_row rfl 33 _ _ rfl wr.heap.size XB.toArray rfl rfl _ _ hBB (uh HXB).info2 ((uh HXB).zed (uh HZ)) (uh HXB).one ?_;clear hBB;rw[← uh HW4]))
   refine cc.mono ?_
   rintro e w5 ⟨tb,nb,rfl,hC5,g5⟩
   clear cc
   have hk5:=(uh HK4).none g5
   have hB5:=(uh HB4).kept g5 (by simp)
   have hnb:nb≠mb:=fun e=>by have h1:=(uh HK4).s.lt;have h2:=hC5.nm;omega
   obtain ⟨y,hy⟩:∃ y:Int,y=(if hasS S1 x=true then 0 else 13):=⟨_,rfl⟩
   obtain ⟨S2,hS2⟩:∃ S2,S2=zev S1 x:=⟨_,rfl⟩
   obtain ⟨TX,hTX⟩:∃ T,T=str x:=⟨_,rfl⟩
   have HRD:Hid (∀ V,w5.grownBy V none→Calls Tryz.prog 11 #[.agg #[.slice x1 y1 z1,.slice x2 y2 z2],.string TX] V fun e w'=>∃ (a1 a2:Option Addr) (n1 n2 c1 c2:Nat),e = .returned (.tuple #[.agg #[.slice a1 n1 c1,.slice a2 n2 c2],.int .i64 y])∧RSet w' w.heap.size (.slice a1 n1 c1) (.slice a2 n2 c2) S2∧V.grownBy w' none):=fun V hV=>by
    have:=zqp V w.heap.size (.slice x1 y1 z1) (.slice x2 y2 z2) S1 (hk5.none hV).d (hk5.none hV).s.ok.ris (by omega) (hk5.none hV).g.size x
    rw[← hy,← hS2,← hTX] at this
    exact this
   have HCV:Hid (∀ V,w5.grownBy V none→(convert 37 9 (.slice (some ⟨wr.heap.size,0,none⟩) 32 32)).run Tryz.prog V = .ok (.string TX) V):=fun V hV=>by
    have hr:=zak (hB5.kept hV (by simp))
    rw[(uh HXB).e] at hr
    have:=zaz (zca hr (by rw[uh HX32];unfold maxLen;omega))
    rw[uh HX32,← hTX] at this
    exact this
   have HRS:=hide (zak hk5.b)
   obtain ⟨HK5,HB5,HC5,HNB,HY,HS2⟩:=zh6 hk5 hB5 hC5 hnb hy hS2
   have h0:w5.grownBy w5.drew none:=zaj (zab _ _)
   clear hC5 g5 hk5 hB5 hnb hy hS2 hTX
   go_upto_region 9 with fail
   go_cut [11,12] (fun x11 x12 wx=>∃ (p12:Nat) (b1 b2:Option Addr) (m1 m2 d1 d2:Nat),x11 = .pointer (some ⟨p12,0,none⟩)∧x12 = .int .i64 y∧Blk wx p12 28 [.slice b1 m1 d1,.slice b2 m2 d2]∧RSet wx w.heap.size (.slice b1 m1 d1) (.slice b2 m2 d2) S2∧w5.grownBy wx none)
   case first =>
    refine wp_region_noPanic ?_
    refine wp_region_held_drew (S:=fun V=>w5.grownBy V none) (by kernel_rfl) h0 (fun _ => ?_)
    obtain ⟨WD,hWD⟩:∃ V,V=w5.drew:=⟨_,rfl⟩
    rw[← hWD]
    rw[← hWD] at h0
    clear hWD
    refine tz 0 59 (.load 28 (.tmp 6)) (.agg [Value.slice x1 y1 z1,Value.slice x2 y2 z2].toArray) h0 ?_ (y:=(yieldsIf_load_mid (by rfl) _ _ rfl _ _ rfl [Value.slice x1 y1 z1,Value.slice x2 y2 z2] _ (fun V hV=>zae (uh HRS) hV (by simp)) Tryz.underlying28 rfl zaq))
    refine tz 1 60 (.slice 33 (.tmp 9) none none none) (.slice (some ⟨wr.heap.size,0,none⟩) 32 32) h0 ?_ (y:=(Or.inl ⟨by rfl,fun V hV=>by (have z9:=zcb wr.heap.size 0 V;go_simp)⟩))
    refine tz 2 61 (.convert 37 9 (.tmp 60)) (.string TX) h0 ?_ (y:=(Or.inl ⟨by rfl,fun V hV=>by (have z9:=uh HCV V hV;go_simp)⟩))
    (try simp only[pq])
    refine wpAnyH_ready (rs:=[3,7]) (by kernel_rfl) (by simp) ?_
    refine AllReadyH.cons (o:=⟨some 62,.call { callee := .value (.func 11),args := #[(.tmp 59),(.tmp 61)],argTypes := #[28,9] },_,_,_,_⟩) rfl (fun K9 hK9 => ?_) (AllReadyH.cons (o:=⟨some 11,.alloc 28,_,_,_,_⟩) rfl (fun K9 hK9 => ?_) AllReadyH.nil)
    ·go_simp
     go_at_call 11
     refine (uh HRD WD h0).mono ?_
     rintro e wp ⟨b1,b2,m1,m2,d1,d2,rfl,hR5,gp⟩
     go_wp2_with fail
     have hp:=tn h0 gp
     refine hK9.out _ _ hp (fun _ => ?_)
     clear hK9 K9 gp
     refine tq 4 58 (.move (.tmp 62)) (.tuple #[.agg #[.slice b1 m1 d1,.slice b2 m2 d2],.int .i64 y]) hp ?_
     refine tq 5 63 (.extract (.tmp 58) 0) (.agg #[.slice b1 m1 d1,.slice b2 m2 d2]) hp ?_
     refine tq 6 64 (.extract (.tmp 58) 1) (.int .i64 y) hp ?_
     (try simp only[pq])
     refine rd 7 (some 11) (.alloc 28) (fun K9 hK9 => ?_)
     obtain ⟨wa,hwa,hB12,ga⟩:=zaf wp 28 [.slice none 0 0,.slice none 0 0]
     go_simp
     rw[← hwa]
     have ha:=tn hp ga
     have hp12:w5.heap.size≤wp.heap.size:=(hp).size
     replace hR5:=hR5.kept ga
     refine hK9.out _ _ ha (fun _ => ?_)
     clear hK9 K9 hwa ga
     (try simp only[pq])
     refine rd 8 none (.store 28 (.tmp 11) (.tmp 63)) (fun K9 hK9 => ?_)
     rw[if_pos (by rfl)]
     refine wp_store_row _ _ _ rfl (wp.heap.size) _ rfl rfl _ _ hB12 zaq rfl (zbn _ _ _ _ _ _) ?_
     have h9:=zam ha #[.slice b1 m1 d1,.slice b2 m2 d2] (Or.inl hp12)
     have gr9:wa.grownBy (wa.setRow (wp.heap.size) #[.slice b1 m1 d1,.slice b2 m2 d2]) (some (wp.heap.size)):=zam (zab _ _) _ (Or.inr rfl)
     have hR9:RSet _ w.heap.size (.slice b1 m1 d1) (.slice b2 m2 d2) S2:=⟨World.ownsRow.kept hR5.ids gr9 (Or.inr fun e=>zag hR5.ids hB12 (by decide) e.symm),World.ownsRow.kept hR5.obs gr9 (Or.inr fun e=>zag hR5.obs hB12 (by decide) e.symm)⟩
     have hB9:=hB12.row [.slice b1 m1 d1,.slice b2 m2 d2]
     refine hK9.out _ _ h9 (fun _ => ?_)
     clear hK9 K9
     (try simp only[Act.put])
     refine tq 9 12 (.assign (.tmp 64)) (.int .i64 y) h9 ?_
     (try simp only[pq])
     refine wpAnyH_done (by kernel_rfl) ?_ _
     refine NoPanic.normal ?_
     go_wp2_with fail
     go_meet
     case rel=>exact ⟨wp.heap.size,b1,b2,m1,m2,d1,d2,rfl,rfl,hB9,hR9,h9⟩
    ·obtain ⟨wa,hwa,hB12,ga⟩:=zaf WD 28 [.slice none 0 0,.slice none 0 0]
     go_simp
     rw[← hwa]
     have ha:=tn h0 ga
     have hp12:w5.heap.size≤WD.heap.size:=(h0).size
     refine hK9.out _ _ ha (fun _ => ?_)
     clear hK9 K9 hwa ga
     (try simp only[pq])
     refine rd 3 (some 62) (.call { callee := .value (.func 11),args := #[(.tmp 59),(.tmp 61)],argTypes := #[28,9] }) (fun K9 hK9 => ?_)
     go_simp
     go_at_call 11
     refine (uh HRD wa ha).mono ?_
     rintro e wp ⟨b1,b2,m1,m2,d1,d2,rfl,hR5,gp⟩
     go_wp2_with fail
     have hp:=tn ha gp
     replace hB12:=hB12.kept gp (by simp)
     refine hK9.out _ _ hp (fun _ => ?_)
     clear hK9 K9 gp
     refine tq 4 58 (.move (.tmp 62)) (.tuple #[.agg #[.slice b1 m1 d1,.slice b2 m2 d2],.int .i64 y]) hp ?_
     refine tq 5 63 (.extract (.tmp 58) 0) (.agg #[.slice b1 m1 d1,.slice b2 m2 d2]) hp ?_
     refine tq 6 64 (.extract (.tmp 58) 1) (.int .i64 y) hp ?_
     (try simp only[pq])
     refine rd 8 none (.store 28 (.tmp 11) (.tmp 63)) (fun K9 hK9 => ?_)
     rw[if_pos (by rfl)]
     refine wp_store_row _ _ _ rfl (WD.heap.size) _ rfl rfl _ _ hB12 zaq rfl (zbn _ _ _ _ _ _) ?_
     have h9:=zam hp #[.slice b1 m1 d1,.slice b2 m2 d2] (Or.inl hp12)
     have gr9:wp.grownBy (wp.setRow (WD.heap.size) #[.slice b1 m1 d1,.slice b2 m2 d2]) (some (WD.heap.size)):=zam (zab _ _) _ (Or.inr rfl)
     have hR9:RSet _ w.heap.size (.slice b1 m1 d1) (.slice b2 m2 d2) S2:=⟨World.ownsRow.kept hR5.ids gr9 (Or.inr fun e=>zag hR5.ids hB12 (by decide) e.symm),World.ownsRow.kept hR5.obs gr9 (Or.inr fun e=>zag hR5.obs hB12 (by decide) e.symm)⟩
     have hB9:=hB12.row [.slice b1 m1 d1,.slice b2 m2 d2]
     refine hK9.out _ _ h9 (fun _ => ?_)
     clear hK9 K9
     (try simp only[Act.put])
     refine tq 9 12 (.assign (.tmp 64)) (.int .i64 y) h9 ?_
     (try simp only[pq])
     refine wpAnyH_done (by kernel_rfl) ?_ _
     refine NoPanic.normal ?_
     go_wp2_with fail
     go_meet
     case rel=>exact ⟨WD.heap.size,b1,b2,m1,m2,d1,d2,rfl,rfl,hB9,hR9,h9⟩
   case rest =>
    obtain ⟨p12,b1,b2,m1,m2,d1,d2,rfl,rfl,hBq,hRq,hgx⟩:=hcut
    have hkc:=(uh HK5).none hgx
    have hBX:=(uh HB5).kept hgx (by simp)
    have hC:=(uh HC5).none hgx
    have cdr:=zs0 w wc sb mb S1 hkc.s x (uh HX32)
    rw[(uh HXB).key,← uh HY,← uh HS2] at cdr
    have hno:hasS S2 x=false:=by rw[uh HS2];exact zvt hkc.s.ok x
    have hS2l:S2.length≤24:=by rw[uh HS2];exact Nat.le_trans (zln _ _) hS1
    have HRX:=hide (zak hBX)
    obtain ⟨HBX,HKC,HC,HBQ,HRQ,HNO⟩:=zh6 hBX hkc hC hBq hRq hno
    have HDR:=hide cdr
    clear cdr hBq hRq hgx hkc hBX hC hno HRD HCV HRS HK5 HB5 HC5 h0
    have hjw:IntKind.i64.wrap ((j:Int)+1)=(j:Int)+1:=by rw[IntKind.wrap_i64];omega
    go_upto_region 10 with fail
    go_cut [82] (fun v wx=>v = .bool false∧Gk.Mid w wx sb mb w1.heap.size p12 (.slice b1 m1 d1) (.slice b2 m2 d2) S2 [(.slice (some ⟨ib,io,none⟩) m ic,IL)])
    case first =>
     cases hh:hasS S1 x with
     | true =>
      have hy0:y=0:=by rw[uh HY,hh];rfl
      subst hy0
      have HHS:=hide hh
      clear hh HY
      refine za7 fun O hO => ?_
      refine zaa (by rw[hO];kernel_rfl) (.pointer (some ⟨sb,0,none⟩)) (fun K9 hK9=>by go_simp;exact hK9) ?_
      (try simp only[pq])
      refine zaa (by rw[hO];kernel_rfl) (.agg XB.toArray) (fun K9 hK9=>wp_load_mid 33 _ rfl wr.heap.size (0) rfl XB _ (uh HRX) Tryz.underlying33 rfl (uh HXB).info hK9) ?_
      (try simp only[pq])
      refine zbl (by rw[hO];kernel_rfl) fun K9 hK9 => ?_
      go_simp
      go_at_call 12
      refine (uh HDR).mono ?_
      rintro e wd ⟨rfl,hSd,gd⟩
      obtain ⟨HSD,HGD⟩:=zh2 hSd gd
      have HRXd:=hide (zak ((uh HBX).setk (uh HKC).s gd))
      have HCd:=hide ((uh HC).other (uh HKC).s gd (uh HNB))
      clear hSd gd
      refine hK9 _ _ ?_
      clear hK9 K9
      (try simp only[pq])
      refine zaa (by rw[hO];kernel_rfl) (.int .i64 (0)) (fun K9 hK9=>by go_simp;exact hK9) ?_
      (try simp only[pq])
      refine zaa (by rw[hO];kernel_rfl) (.bool false) (fun K9 hK9=>by go_simp;exact hK9) ?_
      (try simp only[pq])
      refine zaa (by rw[hO];kernel_rfl) (.bool false) (fun K9 hK9=>by go_simp;exact hK9) ?_
      (try simp only[pq])
      refine zaa (by rw[hO];kernel_rfl) (.pointer (some ⟨sb,0,none⟩)) (fun K9 hK9=>by go_simp;exact hK9) ?_
      (try simp only[pq])
      refine zaa (by rw[hO];kernel_rfl) (.agg XB.toArray) (fun K9 hK9=>wp_load_mid 33 _ rfl wr.heap.size (0) rfl XB _ (uh HRXd) Tryz.underlying33 rfl (uh HXB).info hK9) ?_
      (try simp only[pq])
      have chs:=zep wd (some ⟨sb,0,none⟩) S2 (uh HSD).sat x (uh HX32)
      rw[(uh HXB).key,uh HNO] at chs
      refine zbl (by rw[hO];kernel_rfl) fun K9 hK9 => ?_
      go_simp
      go_at_call 13
      refine (chs).mono ?_
      rintro e we ⟨rfl,ge⟩
      have HGE:=hide ge
      have HRXe:=hide (zae (uh HRXd) ge (by simp))
      clear ge chs
      refine hK9 _ _ ?_
      clear hK9 K9
      (try simp only[pq])
      refine zaa (by rw[hO];kernel_rfl) (.bool false) (fun K9 hK9=>by go_simp;exact hK9) ?_
      (try simp only[pq])
      refine zaa (by rw[hO];kernel_rfl) (.bool false) (fun K9 hK9=>by go_simp;exact hK9) ?_
      (try simp only[pq])
      refine zaa (by rw[hO];kernel_rfl) (.pointer (some ⟨tb,0,none⟩)) (fun K9 hK9=>by go_simp;exact hK9) ?_
      (try simp only[pq])
      refine zaa (by rw[hO];kernel_rfl) (.agg XB.toArray) (fun K9 hK9=>wp_load_mid 33 _ rfl wr.heap.size (0) rfl XB _ (uh HRXe) Tryz.underlying33 rfl (uh HXB).info hK9) ?_
      (try simp only[pq])
      have chs:=zep we (some ⟨tb,0,none⟩) S1 ((uh HCd).none (uh HGE)).sat x (uh HX32)
      rw[(uh HXB).key,uh HHS] at chs
      refine zbl (by rw[hO];kernel_rfl) fun K9 hK9 => ?_
      go_simp
      go_at_call 13
      refine (chs).mono ?_
      rintro e wf ⟨rfl,gf⟩
      have HGF:=hide gf
      clear gf chs
      refine hK9 _ _ ?_
      clear hK9 K9
      (try simp only[pq])
      refine zaa (by rw[hO];kernel_rfl) (.int .i64 (0)) (fun K9 hK9=>by go_simp;exact hK9) ?_
      (try simp only[pq])
      refine zaa (by rw[hO];kernel_rfl) (.bool true) (fun K9 hK9=>by go_simp;exact hK9) ?_
      (try simp only[pq])
      refine zaa (by rw[hO];kernel_rfl) (.bool false) (fun K9 hK9=>by go_simp;exact hK9) ?_
      (try simp only[pq])
      refine zaa (by rw[hO];kernel_rfl) (.bool false) (fun K9 hK9=>by go_simp;exact hK9) ?_
      (try simp only[pq])
      go_wp2_with fail
      go_meet
      case rel=>exact ⟨rfl,Gk.mid (uh HKC) (uh HRQ) (uh HBQ) (uh HSD) (uh HGD) (tn (uh HGE) (uh HGF))⟩
     | false =>
      have hy0:y=13:=by rw[uh HY,hh];rfl
      subst hy0
      have HHS:=hide hh
      clear hh HY
      refine za7 fun O hO => ?_
      refine zaa (by rw[hO];kernel_rfl) (.pointer (some ⟨sb,0,none⟩)) (fun K9 hK9=>by go_simp;exact hK9) ?_
      (try simp only[pq])
      refine zaa (by rw[hO];kernel_rfl) (.agg XB.toArray) (fun K9 hK9=>wp_load_mid 33 _ rfl wr.heap.size (0) rfl XB _ (uh HRX) Tryz.underlying33 rfl (uh HXB).info hK9) ?_
      (try simp only[pq])
      refine zbl (by rw[hO];kernel_rfl) fun K9 hK9 => ?_
      go_simp
      go_at_call 12
      refine (uh HDR).mono ?_
      rintro e wd ⟨rfl,hSd,gd⟩
      obtain ⟨HSD,HGD⟩:=zh2 hSd gd
      have HRXd:=hide (zak ((uh HBX).setk (uh HKC).s gd))
      have HCd:=hide ((uh HC).other (uh HKC).s gd (uh HNB))
      clear hSd gd
      refine hK9 _ _ ?_
      clear hK9 K9
      (try simp only[pq])
      refine zaa (by rw[hO];kernel_rfl) (.int .i64 (13)) (fun K9 hK9=>by go_simp;exact hK9) ?_
      (try simp only[pq])
      refine zaa (by rw[hO];kernel_rfl) (.bool false) (fun K9 hK9=>by go_simp;exact hK9) ?_
      (try simp only[pq])
      refine zaa (by rw[hO];kernel_rfl) (.bool false) (fun K9 hK9=>by go_simp;exact hK9) ?_
      (try simp only[pq])
      refine zaa (by rw[hO];kernel_rfl) (.pointer (some ⟨sb,0,none⟩)) (fun K9 hK9=>by go_simp;exact hK9) ?_
      (try simp only[pq])
      refine zaa (by rw[hO];kernel_rfl) (.agg XB.toArray) (fun K9 hK9=>wp_load_mid 33 _ rfl wr.heap.size (0) rfl XB _ (uh HRXd) Tryz.underlying33 rfl (uh HXB).info hK9) ?_
      (try simp only[pq])
      have chs:=zep wd (some ⟨sb,0,none⟩) S2 (uh HSD).sat x (uh HX32)
      rw[(uh HXB).key,uh HNO] at chs
      refine zbl (by rw[hO];kernel_rfl) fun K9 hK9 => ?_
      go_simp
      go_at_call 13
      refine (chs).mono ?_
      rintro e we ⟨rfl,ge⟩
      have HGE:=hide ge
      have HRXe:=hide (zae (uh HRXd) ge (by simp))
      clear ge chs
      refine hK9 _ _ ?_
      clear hK9 K9
      (try simp only[pq])
      refine zaa (by rw[hO];kernel_rfl) (.bool false) (fun K9 hK9=>by go_simp;exact hK9) ?_
      (try simp only[pq])
      refine zaa (by rw[hO];kernel_rfl) (.bool false) (fun K9 hK9=>by go_simp;exact hK9) ?_
      (try simp only[pq])
      refine zaa (by rw[hO];kernel_rfl) (.pointer (some ⟨tb,0,none⟩)) (fun K9 hK9=>by go_simp;exact hK9) ?_
      (try simp only[pq])
      refine zaa (by rw[hO];kernel_rfl) (.agg XB.toArray) (fun K9 hK9=>wp_load_mid 33 _ rfl wr.heap.size (0) rfl XB _ (uh HRXe) Tryz.underlying33 rfl (uh HXB).info hK9) ?_
      (try simp only[pq])
      have chs:=zep we (some ⟨tb,0,none⟩) S1 ((uh HCd).none (uh HGE)).sat x (uh HX32)
      rw[(uh HXB).key,uh HHS] at chs
      refine zbl (by rw[hO];kernel_rfl) fun K9 hK9 => ?_
      go_simp
      go_at_call 13
      refine (chs).mono ?_
      rintro e wf ⟨rfl,gf⟩
      have HGF:=hide gf
      clear gf chs
      refine hK9 _ _ ?_
      clear hK9 K9
      (try simp only[pq])
      refine zaa (by rw[hO];kernel_rfl) (.int .i64 (13)) (fun K9 hK9=>by go_simp;exact hK9) ?_
      (try simp only[pq])
      refine zaa (by rw[hO];kernel_rfl) (.bool false) (fun K9 hK9=>by go_simp;exact hK9) ?_
      (try simp only[pq])
      refine zaa (by rw[hO];kernel_rfl) (.bool false) (fun K9 hK9=>by go_simp;exact hK9) ?_
      (try simp only[pq])
      refine zaa (by rw[hO];kernel_rfl) (.bool false) (fun K9 hK9=>by go_simp;exact hK9) ?_
      (try simp only[pq])
      go_wp2_with fail
      go_meet
      case rel=>exact ⟨rfl,Gk.mid (uh HKC) (uh HRQ) (uh HBQ) (uh HSD) (uh HGD) (tn (uh HGE) (uh HGF))⟩
    case rest =>
     obtain ⟨rfl,hmid⟩:=hcut
     obtain ⟨o1,o2,hS3,hR3,hB3,hq3,hV3,g3⟩:=hmid
     have hr3:=zak hq3
     have hfin:=Gk.turn hS3 hR3 hB3 hV3 g3 (uh HRB)
     obtain ⟨HFIN,HB3⟩:=zh2 hfin hB3
     clear hS3 hR3 hB3 hq3 hV3 g3 hfin HKC HRQ HBQ HDR HRX HBX HC HNO HNB HS2
     go_wp2_with (first
      | (refine wpList_load_mid rfl 28 _ rfl p12 0 rfl [.slice b1 m1 d1,.slice b2 m2 d2] _ hr3 Tryz.underlying28 rfl zaq ?_;clear hr3)
      | (refine wpList_store_row rfl 28 _ _ rfl w1.heap.size _ rfl rfl _ _ (uh HB3) zaq rfl (zbn _ _ _ _ _ _) ?_))
     go_roundw
     case rel=>exact ⟨j+1,S2,b1,b2,m1,m2,d1,d2,by go_num,by omega,hS2l,uh HFIN⟩
     case measure=>simp[intOf];omega
  ·go_upto_region 5 with fail
   go_cut [37] (fun v wx=>v = .bool false∧wx=wr)
   case first =>
    by_cases q1:j<dn
    ·have q1i:(j:Int)<(dn:Int):=by omega
     by_cases q2:j<10
     ·have q2i:(j:Int)<10:=by omega
      have q3i:¬ (0:Int)<(m:Int):=by omega
      have q3:m=0:=by omega
      have hm0:¬ 0<m:=by omega
      clear hgo q3
      refine za7 fun O hO => ?_
      refine zaa (by rw[hO];kernel_rfl) (.int .i64 ((j:Int))) (fun K9 hK9=>by go_simp;exact hK9) ?_
      (try simp only[pq])
      refine zaa (by rw[hO];kernel_rfl) (.slice bo dn bc) (fun K9 hK9=>by go_simp;exact hK9) ?_
      (try simp only[pq])
      refine zaa (by rw[hO];kernel_rfl) (.int .i64 (dn:Int)) (fun K9 hK9=>by go_simp;exact hK9) ?_
      (try simp only[pq])
      refine zaa (by rw[hO];kernel_rfl) (.bool true) (fun K9 hK9=>by go_simp;exact hK9) ?_
      (try simp only[pq])
      refine zaa (by rw[hO];kernel_rfl) (.bool true) (fun K9 hK9=>by go_simp;exact hK9) ?_
      (try simp only[pq])
      refine zaa (by rw[hO];kernel_rfl) (.int .i64 ((j:Int))) (fun K9 hK9=>by go_simp;exact hK9) ?_
      (try simp only[pq])
      refine zaa (by rw[hO];kernel_rfl) (.bool true) (fun K9 hK9=>by go_simp;exact hK9) ?_
      (try simp only[pq])
      refine zaa (by rw[hO];kernel_rfl) (.bool true) (fun K9 hK9=>by go_simp;exact hK9) ?_
      (try simp only[pq])
      refine zaa (by rw[hO];kernel_rfl) (.bool true) (fun K9 hK9=>by go_simp;exact hK9) ?_
      (try simp only[pq])
      refine zaa (by rw[hO];kernel_rfl) (.slice ia m ic) (fun K9 hK9=>by go_simp;exact hK9) ?_
      (try simp only[pq])
      refine zaa (by rw[hO];kernel_rfl) (.int .i64 (m:Int)) (fun K9 hK9=>by go_simp;exact hK9) ?_
      (try simp only[pq])
      refine zaa (by rw[hO];kernel_rfl) (.bool false) (fun K9 hK9=>by go_simp;exact hK9) ?_
      (try simp only[pq])
      refine zaa (by rw[hO];kernel_rfl) (.bool false) (fun K9 hK9=>by go_simp;exact hK9) ?_
      (try simp only[pq])
      go_wp2_with fail
      go_meet
      case rel=>exact ⟨rfl,rfl⟩
     ·have q2i:¬ (j:Int)<10:=by omega
      clear hgo
      refine za7 fun O hO => ?_
      refine zaa (by rw[hO];kernel_rfl) (.int .i64 ((j:Int))) (fun K9 hK9=>by go_simp;exact hK9) ?_
      (try simp only[pq])
      refine zaa (by rw[hO];kernel_rfl) (.slice bo dn bc) (fun K9 hK9=>by go_simp;exact hK9) ?_
      (try simp only[pq])
      refine zaa (by rw[hO];kernel_rfl) (.int .i64 (dn:Int)) (fun K9 hK9=>by go_simp;exact hK9) ?_
      (try simp only[pq])
      refine zaa (by rw[hO];kernel_rfl) (.bool true) (fun K9 hK9=>by go_simp;exact hK9) ?_
      (try simp only[pq])
      refine zaa (by rw[hO];kernel_rfl) (.bool true) (fun K9 hK9=>by go_simp;exact hK9) ?_
      (try simp only[pq])
      refine zaa (by rw[hO];kernel_rfl) (.int .i64 ((j:Int))) (fun K9 hK9=>by go_simp;exact hK9) ?_
      (try simp only[pq])
      refine zaa (by rw[hO];kernel_rfl) (.bool false) (fun K9 hK9=>by go_simp;exact hK9) ?_
      (try simp only[pq])
      refine zaa (by rw[hO];kernel_rfl) (.bool false) (fun K9 hK9=>by go_simp;exact hK9) ?_
      (try simp only[pq])
      refine zaa (by rw[hO];kernel_rfl) (.bool false) (fun K9 hK9=>by go_simp;exact hK9) ?_
      (try simp only[pq])
      refine zal (by rw[hO];kernel_rfl) ?_
      (try simp only[pq])
      refine zal (by rw[hO];kernel_rfl) ?_
      (try simp only[pq])
      refine zal (by rw[hO];kernel_rfl) ?_
      (try simp only[pq])
      refine zaa (by rw[hO];kernel_rfl) (.bool false) (fun K9 hK9=>by go_simp;exact hK9) ?_
      (try simp only[pq])
      go_wp2_with fail
      go_meet
      case rel=>exact ⟨rfl,rfl⟩
    ·have q1i:¬ (j:Int)<(dn:Int):=by omega
     clear hgo
     refine za7 fun O hO => ?_
     refine zaa (by rw[hO];kernel_rfl) (.int .i64 ((j:Int))) (fun K9 hK9=>by go_simp;exact hK9) ?_
     (try simp only[pq])
     refine zaa (by rw[hO];kernel_rfl) (.slice bo dn bc) (fun K9 hK9=>by go_simp;exact hK9) ?_
     (try simp only[pq])
     refine zaa (by rw[hO];kernel_rfl) (.int .i64 (dn:Int)) (fun K9 hK9=>by go_simp;exact hK9) ?_
     (try simp only[pq])
     refine zaa (by rw[hO];kernel_rfl) (.bool false) (fun K9 hK9=>by go_simp;exact hK9) ?_
     (try simp only[pq])
     refine zaa (by rw[hO];kernel_rfl) (.bool false) (fun K9 hK9=>by go_simp;exact hK9) ?_
     (try simp only[pq])
     refine zal (by rw[hO];kernel_rfl) ?_
     (try simp only[pq])
     refine zal (by rw[hO];kernel_rfl) ?_
     (try simp only[pq])
     refine zaa (by rw[hO];kernel_rfl) (.bool false) (fun K9 hK9=>by go_simp;exact hK9) ?_
     (try simp only[pq])
     refine zaa (by rw[hO];kernel_rfl) (.bool false) (fun K9 hK9=>by go_simp;exact hK9) ?_
     (try simp only[pq])
     refine zal (by rw[hO];kernel_rfl) ?_
     (try simp only[pq])
     refine zal (by rw[hO];kernel_rfl) ?_
     (try simp only[pq])
     refine zal (by rw[hO];kernel_rfl) ?_
     (try simp only[pq])
     refine zaa (by rw[hO];kernel_rfl) (.bool false) (fun K9 hK9=>by go_simp;exact hK9) ?_
     (try simp only[pq])
     go_wp2_with fail
     go_meet
     case rel=>exact ⟨rfl,rfl⟩
   case rest =>
    obtain ⟨rfl,hwx⟩:=hcut
    rw[hwx]
    clear hwx hgo hj
    go_wp2_with fail
    go_loopw [13,14,15,16] (fun i _a _b _c wr=>∃ k:Nat,i = .int .i64 k∧k≤m∧Gk w wr sb mb w1.heap.size (.slice x1 y1 z1) (.slice x2 y2 z2) S1 [(.slice ia m ic,IL)]) (fun i _ _ _ _=>m - (intOf i).toNat)
    case atStart=>exact ⟨0,rfl,Nat.zero_le _,uh HK⟩
    case round =>
     clear HK
     obtain ⟨k,rfl,hk9,hk⟩:=hrel
     have HK:=hide hk
     clear hk
     by_cases hlt:k<m
     ·have hkI:k<IL.length:=by rw[← uh HM];exact hlt
      have hki:(k:Int)<(m:Int):=by omega
      have hkw:IntKind.i64.wrap ((k:Int)+1)=(k:Int)+1:=by rw[IntKind.wrap_i64];omega
      obtain ⟨ib,io,hia,hrow⟩:=((uh HK).rows (.slice ia m ic,IL) (by simp)).at k hkI
      have hx32:=uh HWI _ (List.getElem_mem hkI)
      obtain ⟨x,hx⟩:∃ x,x=IL[k]:=⟨_,rfl⟩
      rw[← hx] at hrow hx32
      obtain ⟨XB,hXB⟩:=kyb x hx32
      rw[← hXB.e] at hrow
      subst hia
      cases hlk:lkS S1 x with
      | some o =>
       obtain ⟨hoS,hoid⟩:=zd5 hlk
       obtain ⟨kj,hkj,hoe⟩:=List.getElem_of_mem hoS
       have cget:=zxt w wr sb mb S1 (uh HK).s x hx32 o hlk
       have HOX:=hide hoid
       rw[hXB.key] at cget
       have hsm:=zeo ((uh HK).s.ok.ok o hoS)
       have HOE:=hide hoe
       have HHS:Hid (hasS S1 x=true):=by unfold hasS;rw[hlk];rfl
       obtain ⟨HXB,HX32,HROW⟩:=zh3 hXB hx32 hrow
       clear hlk hoS hoid hoe hx hXB hx32 hrow
       go_upto_region 17 with (first
        | (refine wpList_load_mid rfl 33 _ rfl ib (io+k*32) rfl XB _ (uh HROW) Tryz.underlying33 rfl (uh HXB).info ?_)
        | (go_at_call 14;refine cget.mono ?_;rintro e w13 ⟨v13,rfl,hn13,g13⟩;clear cget;obtain ⟨da,dc,rfl,hD13⟩:=hn13.dat;obtain ⟨dl,hdl⟩:∃ n,n=o.d.length:=⟨_,rfl⟩;rw[← hdl];obtain ⟨ok,hok⟩:∃ k,k=o.k:=⟨_,rfl⟩;rw[← hok];obtain ⟨W14,hW14,hB14,g14⟩:=zbb w13 42 #[.int .i64 0,.slice none 0 0] [.int .i64 ok,.slice da dl dc];have HK14:=hide (((uh HK).none g13).none g14);have HD14:=hide (hD13.none g14);have HRX14:=hide (zae (uh HROW) (tn g13 g14) (by simp));have HW14:=hide hW14;have HB14:=hide hB14;have HDN:=hide hdl;have HOK:=hide hok;clear hn13 hD13 g13 g14 hW14 hB14 hdl hok)
        | (refine wpList_store_row rfl 42 _ _ rfl w13.heap.size _ rfl rfl _ _ (Blk.new w13 42 [.int .i64 0,.slice none 0 0]) zas rfl (zb5 rfl) ?_;rw[← uh HW14]))
       have h0:W14.grownBy W14.drew none:=zaj (zab _ _)
       have HRS14:=hide (zak (uh HK14).b)
       obtain ⟨TX,hTX⟩:∃ T,T=str x:=⟨_,rfl⟩
       have HCV:Hid (∀ V,W14.grownBy V none→(convert 37 9 (.slice (some ⟨ib,io+k*32,none⟩) 32 32)).run Tryz.prog V = .ok (.string TX) V):=fun V hV=>by
        have hr:=zae (uh HRX14) hV (by simp)
        rw[(uh HXB).e] at hr
        have:=zaz (zca hr (by rw[uh HX32];unfold maxLen;omega))
        rw[uh HX32,← hTX] at this
        exact this
       have HPLC:Hid (∀ V,W14.grownBy V none→Calls Tryz.prog 15 #[.agg #[.slice x1 y1 z1,.slice x2 y2 z2],.string TX] V fun e w'=>e = .returned (.int .i64 (kj:Int))∧V.grownBy w' none):=fun V hV=>by
        obtain ⟨hy1,hst⟩:=((uh HK14).none hV).d.stl
        have hpl:=zg1 V _ x1 z1 (idsS S1) hst x2 y2 z2 x (by simp[idsS];omega)
        rw[← hy1,← hTX] at hpl
        refine hpl.mono ?_
        rintro e w' ⟨rr,rfl,g9,hc⟩
        refine ⟨?_,g9⟩
        rcases hc with ⟨-,hc⟩ | ⟨jj,rfl,hc,-⟩
        ·exact absurd (List.mem_map.2 ⟨o,by rw[← uh HOE];exact List.getElem_mem hkj,uh HOX⟩) hc
        ·have:=(zto (uh HK14).s.ok.ris hc hkj).1 (by rw[uh HOE];exact uh HOX)
         rw[this]
       clear hTX
       refine wp_region_noPanic ?_
       refine wp_region_held_drew (S:=fun V=>W14.grownBy V none) (by kernel_rfl) h0 (fun _ => ?_)
       refine tz 0 99 (.load 28 (.tmp 6)) (.agg [Value.slice x1 y1 z1,Value.slice x2 y2 z2].toArray) h0 ?_ (y:=(yieldsIf_load_mid (by rfl) _ _ rfl _ _ rfl [Value.slice x1 y1 z1,Value.slice x2 y2 z2] _ (fun V hV=>zae (uh HRS14) hV (by simp)) Tryz.underlying28 rfl zaq))
       refine tq 1 100 (.move (.tmp 7)) ((.slice (some ⟨ib,io,none⟩) m ic)) h0 ?_
       refine tq 2 101 (.move (.tmp 13)) ((.int .i64 ((k:Int)))) h0 ?_
       refine tq 3 102 (.indexAddr 29 (.tmp 100) (.tmp 101)) ((.pointer (some ⟨ib,io+k*32,none⟩))) h0 ?_
       (try simp only[pq])
       refine tz 4 103 (.slice 33 (.tmp 102) none none none) ((.slice (some ⟨ib,io+k*32,none⟩) 32 32)) h0 ?_ (y:=(Or.inl ⟨by rfl,fun V hV=>by (have z9:=zcb ib (io+k*32) V;go_simp)⟩))
       refine tz 5 104 (.convert 37 9 (.tmp 103)) ((.string TX)) h0 ?_ (y:=(Or.inl ⟨by rfl,fun V hV=>by (have z9:=uh HCV V hV;go_simp)⟩))
       (try simp only[pq])
       refine rd 6 (some 105) (.call { callee := .value (.func 15),args := #[(.tmp 99),(.tmp 104)],argTypes := #[28,9] }) (fun K9 hK9 => ?_)
       go_simp
       go_at_call 15
       refine (uh HPLC _ h0).mono ?_
       rintro e w15 ⟨rfl,g15⟩
       have h15:=tn h0 g15
       clear g15
       go_wp2_with fail
       refine hK9.out _ _ h15 (fun _ => ?_)
       clear hK9 K9
       refine tq 7 16 (.assign (.tmp 105)) ((.int .i64 ((kj:Int)))) h15 ?_
       (try simp only[pq])
       refine wpAnyH_done (by kernel_rfl) ?_ _
       refine NoPanic.normal ?_
       have hk15:=(uh HK14).none h15
       have HRX:=hide (zae (uh HRX14) h15 (by simp))
       have HHAS:Hid (∀ V,w15.grownBy V none→Calls Tryz.prog 13 #[.pointer (some ⟨sb,0,none⟩),.agg XB.toArray] V fun e w'=>e = .returned (.bool true)∧V.grownBy w' none):=fun V hV=>by
        have:=zep V (some ⟨sb,0,none⟩) S1 (hk15.none hV).s.sat x (uh HX32)
        rw[(uh HXB).key,uh HHS] at this
        exact this
       obtain ⟨hy2,hrob⟩:=hk15.d.rob
       obtain ⟨xb,xo,hx2,hrj⟩:=hrob.at kj hkj
       rw[uh HOE] at hrj
       have hc1:=hk15.b.cell 1
       rw[hx2] at hc1
       have HC1:Hid (w15.cell? ⟨w1.heap.size,1,none⟩=some (.slice (some ⟨xb,xo,none⟩) y2 z2)):=hc1
       obtain ⟨SD,hSD⟩:∃ T,T=str o.d:=⟨_,rfl⟩
       have HRJ:Hid (w15.rangeAt xb (xo+kj*2) [.int .i64 ok,.string SD]):=by rw[uh HOK,hSD];exact hrj
       have HOWN:Hid (∀ V,w15.grownBy V none→Calls Tryz.prog 16 #[.agg #[.int .i64 ok,.slice da dl dc]] V fun e w'=>e = .returned (.agg #[.int .i64 ok,.string SD])∧V.grownBy w' none):=fun V hV=>by
        have:=zoj V o.k da dc o.d ((uh HD14).none (tn h15 hV)).bts
        rw[← uh HOK,← uh HDN,← hSD] at this
        exact this
       have HRO:=hide (zak ((uh HB14).kept h15 (by simp)))
       have hkjy:kj<y2:=by rw[hy2];exact hkj
       have hkji:(kj:Int)<(y2:Int):=by omega
       have hkj0:(0:Int)≤(kj:Int):=by omega
       have HKJ:=hide hkj
       clear hy2 hrob hx2 hrj hc1 hSD HOE hkj
       have HK15:=hide hk15
       clear hk15 h15 h0 HK14 HRX14 HRS14 HCV HPLC
       have h0:w15.grownBy w15.drew none:=zaj (zab _ _)
       go_upto_region 18 with fail
       refine wp_region_noPanic ?_
       refine wp_region_held_drew (S:=fun V=>w15.grownBy V none) (by kernel_rfl) h0 (fun _ => ?_)
       refine tq 0 106 (.move (.tmp 15)) ((.int .i64 (0))) h0 ?_
       refine tq 1 107 (.binOp .eql 38 (.tmp 106) (.const (.int .i64 0)) 38) ((.bool true)) h0 ?_
       refine tq 2 108 (.move (.tmp 16)) ((.int .i64 ((kj:Int)))) h0 ?_
       refine tq 3 109 (.binOp .geq 3 (.tmp 108) (.const (.int .i64 0)) 3) ((.bool true)) h0 ?_
       (try simp only[pq])
       refine tq 4 110 (.binOp .neq 4 (.tmp 107) (.tmp 109) 4) ((.bool false)) h0 ?_
       refine tq 5 111 (.move (.tmp 110)) ((.bool false)) h0 ?_
       refine tq 6 112 (.move (.tmp 16)) ((.int .i64 ((kj:Int)))) h0 ?_
       refine tq 7 113 (.binOp .geq 3 (.tmp 112) (.const (.int .i64 0)) 3) ((.bool true)) h0 ?_
       (try simp only[pq])
       refine tq 8 114 (.move (.tmp 113)) ((.bool true)) h0 ?_
       refine tz 9 115 (.load 42 (.tmp 14)) (.agg [Value.int IntKind.i64 ok,Value.slice da dl dc].toArray) h0 ?_ (y:=(yieldsIf_load_mid (by rfl) _ _ rfl _ _ rfl [Value.int IntKind.i64 ok,Value.slice da dl dc] _ (fun V hV=>zae (uh HRO) hV (by simp)) Tryz.underlying42 rfl zas))
       refine tq 11 117 (.fieldAddr 28 (.tmp 6) 1) ((.pointer (some ⟨w1.heap.size,1,none⟩))) h0 ?_
       refine tz 12 118 (.load 26 (.tmp 117)) (.slice (some ⟨xb,xo,none⟩) y2 z2) h0 ?_ (y:=(Or.inl ⟨by rfl,fun V hV=>by (have hv1:=hV.cell (uh HC1) (by simp);go_simp)⟩))
       (try simp only[pq])
       refine tq 13 119 (.move (.tmp 16)) ((.int .i64 ((kj:Int)))) h0 ?_
       refine tq 14 120 (.indexAddr 26 (.tmp 118) (.tmp 119)) ((.pointer (some ⟨xb,xo+kj*2,none⟩))) h0 ?_
       refine tz 15 121 (.load 47 (.tmp 120)) (.agg [Value.int IntKind.i64 ok,Value.string SD].toArray) h0 ?_ (y:=(yieldsIf_load_mid (by rfl) _ _ rfl _ _ rfl [Value.int IntKind.i64 ok,Value.string SD] _ (fun V hV=>zae (uh HRJ) hV (by simp)) Tryz.underlying47 rfl zc7))
       (try simp only[pq])
       refine rd 10 (some 116) (.call { callee := .value (.func 16),args := #[(.tmp 115)],argTypes := #[42] }) (fun K9 hK9 => ?_)
       go_simp
       go_at_call 16
       refine (uh HOWN _ h0).mono ?_
       rintro e w16 ⟨rfl,g16⟩
       have h16:=tn h0 g16
       clear g16
       go_wp2_with fail
       refine hK9.out _ _ h16 (fun _ => ?_)
       clear hK9 K9
       refine tz 16 122 (.binOp .neq 47 (.tmp 116) (.tmp 121) 47) (.bool false) h16 ?_ (y:=(zds (by rfl) _ _ _ _ rfl _ _ _ rfl rfl zb3 (zv8 ok SD)))
       refine tq 17 123 (.pick (.tmp 114) (.tmp 122) (.const (.bool false))) ((.bool false)) h16 ?_
       refine tq 18 124 (.pick (.tmp 111) (.const (.bool true)) (.tmp 123)) ((.bool false)) h16 ?_
       (try simp only[pq])
       refine tq 19 125 (.move (.tmp 124)) ((.bool false)) h16 ?_
       refine tq 20 126 (.move (.tmp 5)) ((.pointer (some ⟨sb,0,none⟩))) h16 ?_
       refine tq 21 127 (.move (.tmp 7)) ((.slice (some ⟨ib,io,none⟩) m ic)) h16 ?_
       refine tq 22 128 (.move (.tmp 13)) ((.int .i64 ((k:Int)))) h16 ?_
       (try simp only[pq])
       refine tq 23 129 (.indexAddr 29 (.tmp 127) (.tmp 128)) ((.pointer (some ⟨ib,io+k*32,none⟩))) h16 ?_
       refine tz 24 130 (.load 33 (.tmp 129)) (.agg XB.toArray) h16 ?_ (y:=(yieldsIf_load_mid (by rfl) _ _ rfl _ _ rfl XB _ (fun V hV=>zae (uh HRX) hV (by simp)) Tryz.underlying33 rfl (uh HXB).info))
       refine tq 26 132 (.move (.tmp 16)) ((.int .i64 ((kj:Int)))) h16 ?_
       refine tq 27 133 (.binOp .geq 3 (.tmp 132) (.const (.int .i64 0)) 3) ((.bool true)) h16 ?_
       (try simp only[pq])
       refine rd 25 (some 131) (.call { callee := .value (.func 13),args := #[(.tmp 126),(.tmp 130)],argTypes := #[24,33] }) (fun K9 hK9 => ?_)
       go_simp
       go_at_call 13
       refine (uh HHAS _ h16).mono ?_
       rintro e w17 ⟨rfl,g17⟩
       have h17:=tn h16 g17
       clear g17
       go_wp2_with fail
       refine hK9.out _ _ h17 (fun _ => ?_)
       clear hK9 K9
       refine tq 28 134 (.binOp .neq 4 (.tmp 131) (.tmp 133) 4) ((.bool false)) h17 ?_
       refine tq 29 135 (.pick (.tmp 125) (.const (.bool true)) (.tmp 134)) ((.bool false)) h17 ?_
       (try simp only[pq])
       refine wpAnyH_done (by kernel_rfl) ?_ _
       refine NoPanic.normal ?_
       have HK17:=hide ((uh HK15).none h17)
       clear h17 h0 HK15
       go_wp2
       go_roundw
       case rel=>exact ⟨k+1,by go_num,by omega,uh HK17⟩
       case measure=>simp[intOf];omega
      | none =>
       have cget:=zxu wr (some ⟨sb,0,none⟩) S1 (uh HK).s.sat x hx32 hlk
       rw[hXB.key] at cget
       have HNI:=hide (zg2 hlk)
       have HHS:Hid (hasS S1 x=false):=by unfold hasS;rw[hlk];rfl
       obtain ⟨HXB,HX32,HROW⟩:=zh3 hXB hx32 hrow
       clear hlk hx hXB hx32 hrow
       go_upto_region 17 with (first
        | (refine wpList_load_mid rfl 33 _ rfl ib (io+k*32) rfl XB _ (uh HROW) Tryz.underlying33 rfl (uh HXB).info ?_)
        | (go_at_call 14;refine cget.mono ?_;rintro e w13 ⟨ey,rfl,hey,g13⟩;clear cget;have hey0:¬ ey=0:=(by rcases hey with ⟨_,_,_,_,h⟩ | ⟨_,h⟩ <;> omega);obtain ⟨W14,hW14,hB14,g14⟩:=zbb w13 42 #[.int .i64 0,.slice none 0 0] [.int .i64 0,.slice none 0 0];have HK14:=hide (((uh HK).none g13).none g14);have HRX14:=hide (zae (uh HROW) (tn g13 g14) (by simp));have HW14:=hide hW14;have HEY:=hide hey0;clear hey hey0 g13 g14 hW14 hB14)
        | (refine wpList_store_row rfl 42 _ _ rfl w13.heap.size _ rfl rfl _ _ (Blk.new w13 42 [.int .i64 0,.slice none 0 0]) zas rfl (zb5 rfl) ?_;rw[← uh HW14]))
       have h0:W14.grownBy W14.drew none:=zaj (zab _ _)
       have HRS14:=hide (zak (uh HK14).b)
       obtain ⟨TX,hTX⟩:∃ T,T=str x:=⟨_,rfl⟩
       have HCV:Hid (∀ V,W14.grownBy V none→(convert 37 9 (.slice (some ⟨ib,io+k*32,none⟩) 32 32)).run Tryz.prog V = .ok (.string TX) V):=fun V hV=>by
        have hr:=zae (uh HRX14) hV (by simp)
        rw[(uh HXB).e] at hr
        have:=zaz (zca hr (by rw[uh HX32];unfold maxLen;omega))
        rw[uh HX32,← hTX] at this
        exact this
       have HPLC:Hid (∀ V,W14.grownBy V none→Calls Tryz.prog 15 #[.agg #[.slice x1 y1 z1,.slice x2 y2 z2],.string TX] V fun e w'=>e = .returned (.int .i64 (-1))∧V.grownBy w' none):=fun V hV=>by
        obtain ⟨hy1,hst⟩:=((uh HK14).none hV).d.stl
        have hpl:=zg1 V _ x1 z1 (idsS S1) hst x2 y2 z2 x (by simp[idsS];omega)
        rw[← hy1,← hTX] at hpl
        refine hpl.mono ?_
        rintro e w' ⟨rr,rfl,g9,hc⟩
        refine ⟨?_,g9⟩
        rcases hc with ⟨rfl,-⟩ | ⟨jj,rfl,hc,-⟩
        ·rfl
        ·exact absurd (List.mem_of_getElem? hc) (uh HNI)
       clear hTX
       refine wp_region_noPanic ?_
       refine wp_region_held_drew (S:=fun V=>W14.grownBy V none) (by kernel_rfl) h0 (fun _ => ?_)
       refine tz 0 99 (.load 28 (.tmp 6)) (.agg [Value.slice x1 y1 z1,Value.slice x2 y2 z2].toArray) h0 ?_ (y:=(yieldsIf_load_mid (by rfl) _ _ rfl _ _ rfl [Value.slice x1 y1 z1,Value.slice x2 y2 z2] _ (fun V hV=>zae (uh HRS14) hV (by simp)) Tryz.underlying28 rfl zaq))
       refine tq 1 100 (.move (.tmp 7)) ((.slice (some ⟨ib,io,none⟩) m ic)) h0 ?_
       refine tq 2 101 (.move (.tmp 13)) ((.int .i64 ((k:Int)))) h0 ?_
       refine tq 3 102 (.indexAddr 29 (.tmp 100) (.tmp 101)) ((.pointer (some ⟨ib,io+k*32,none⟩))) h0 ?_
       (try simp only[pq])
       refine tz 4 103 (.slice 33 (.tmp 102) none none none) ((.slice (some ⟨ib,io+k*32,none⟩) 32 32)) h0 ?_ (y:=(Or.inl ⟨by rfl,fun V hV=>by (have z9:=zcb ib (io+k*32) V;go_simp)⟩))
       refine tz 5 104 (.convert 37 9 (.tmp 103)) ((.string TX)) h0 ?_ (y:=(Or.inl ⟨by rfl,fun V hV=>by (have z9:=uh HCV V hV;go_simp)⟩))
       (try simp only[pq])
       refine rd 6 (some 105) (.call { callee := .value (.func 15),args := #[(.tmp 99),(.tmp 104)],argTypes := #[28,9] }) (fun K9 hK9 => ?_)
       go_simp
       go_at_call 15
       refine (uh HPLC _ h0).mono ?_
       rintro e w15 ⟨rfl,g15⟩
       have h15:=tn h0 g15
       clear g15
       go_wp2_with fail
       refine hK9.out _ _ h15 (fun _ => ?_)
       clear hK9 K9
       refine tq 7 16 (.assign (.tmp 105)) ((.int .i64 (-1))) h15 ?_
       (try simp only[pq])
       refine wpAnyH_done (by kernel_rfl) ?_ _
       refine NoPanic.normal ?_
       have hk15:=(uh HK14).none h15
       have HRX:=hide (zae (uh HRX14) h15 (by simp))
       have HHAS:Hid (∀ V,w15.grownBy V none→Calls Tryz.prog 13 #[.pointer (some ⟨sb,0,none⟩),.agg XB.toArray] V fun e w'=>e = .returned (.bool false)∧V.grownBy w' none):=fun V hV=>by
        have:=zep V (some ⟨sb,0,none⟩) S1 (hk15.none hV).s.sat x (uh HX32)
        rw[(uh HXB).key,uh HHS] at this
        exact this
       have hey1:=uh HEY
       have hey2:(ey == 0)=false:=by simpa using hey1
       have HK15:=hide hk15
       clear hk15 h15 h0 HK14 HRX14 HRS14 HCV HPLC
       have h0:w15.grownBy w15.drew none:=zaj (zab _ _)
       go_upto_region 18 with fail
       refine wp_region_noPanic ?_
       refine wp_region_held_drew (S:=fun V=>w15.grownBy V none) (by kernel_rfl) h0 (fun _ => ?_)
       refine tq 0 106 (.move (.tmp 15)) ((.int .i64 (ey))) h0 ?_
       refine tq 1 107 (.binOp .eql 38 (.tmp 106) (.const (.int .i64 0)) 38) ((.bool false)) h0 ?_
       refine tq 2 108 (.move (.tmp 16)) ((.int .i64 (-1))) h0 ?_
       refine tq 3 109 (.binOp .geq 3 (.tmp 108) (.const (.int .i64 0)) 3) ((.bool false)) h0 ?_
       (try simp only[pq])
       refine tq 4 110 (.binOp .neq 4 (.tmp 107) (.tmp 109) 4) ((.bool false)) h0 ?_
       refine tq 5 111 (.move (.tmp 110)) ((.bool false)) h0 ?_
       refine tq 6 112 (.move (.tmp 16)) ((.int .i64 (-1))) h0 ?_
       refine tq 7 113 (.binOp .geq 3 (.tmp 112) (.const (.int .i64 0)) 3) ((.bool false)) h0 ?_
       (try simp only[pq])
       refine tq 8 114 (.move (.tmp 113)) ((.bool false)) h0 ?_
       refine tz 9 115 (.load 42 (.tmp 14)) undef h0 ?_ (y:=(Or.inr ⟨by rfl,rfl⟩))
       refine tz 10 116 (.call { callee := .value (.func 16),args := #[(.tmp 115)],argTypes := #[42] }) undef h0 ?_ (y:=(Or.inr ⟨by rfl,rfl⟩))
       refine tz 11 117 (.fieldAddr 28 (.tmp 6) 1) undef h0 ?_ (y:=(Or.inr ⟨by rfl,rfl⟩))
       (try simp only[pq])
       refine tz 12 118 (.load 26 (.tmp 117)) undef h0 ?_ (y:=(Or.inr ⟨by rfl,rfl⟩))
       refine tz 13 119 (.move (.tmp 16)) undef h0 ?_ (y:=(Or.inr ⟨by rfl,rfl⟩))
       refine tz 14 120 (.indexAddr 26 (.tmp 118) (.tmp 119)) undef h0 ?_ (y:=(Or.inr ⟨by rfl,rfl⟩))
       refine tz 15 121 (.load 47 (.tmp 120)) undef h0 ?_ (y:=(Or.inr ⟨by rfl,rfl⟩))
       (try simp only[pq])
       refine tz 16 122 (.binOp .neq 47 (.tmp 116) (.tmp 121) 47) undef h0 ?_ (y:=(Or.inr ⟨by rfl,rfl⟩))
       refine tq 17 123 (.pick (.tmp 114) (.tmp 122) (.const (.bool false))) ((.bool false)) h0 ?_
       refine tq 18 124 (.pick (.tmp 111) (.const (.bool true)) (.tmp 123)) ((.bool false)) h0 ?_
       refine tq 19 125 (.move (.tmp 124)) ((.bool false)) h0 ?_
       (try simp only[pq])
       refine tq 20 126 (.move (.tmp 5)) ((.pointer (some ⟨sb,0,none⟩))) h0 ?_
       refine tq 21 127 (.move (.tmp 7)) ((.slice (some ⟨ib,io,none⟩) m ic)) h0 ?_
       refine tq 22 128 (.move (.tmp 13)) ((.int .i64 ((k:Int)))) h0 ?_
       refine tq 23 129 (.indexAddr 29 (.tmp 127) (.tmp 128)) ((.pointer (some ⟨ib,io+k*32,none⟩))) h0 ?_
       (try simp only[pq])
       refine tz 24 130 (.load 33 (.tmp 129)) (.agg XB.toArray) h0 ?_ (y:=(yieldsIf_load_mid (by rfl) _ _ rfl _ _ rfl XB _ (fun V hV=>zae (uh HRX) hV (by simp)) Tryz.underlying33 rfl (uh HXB).info))
       refine tq 26 132 (.move (.tmp 16)) ((.int .i64 (-1))) h0 ?_
       refine tq 27 133 (.binOp .geq 3 (.tmp 132) (.const (.int .i64 0)) 3) ((.bool false)) h0 ?_
       (try simp only[pq])
       refine rd 25 (some 131) (.call { callee := .value (.func 13),args := #[(.tmp 126),(.tmp 130)],argTypes := #[24,33] }) (fun K9 hK9 => ?_)
       go_simp
       go_at_call 13
       refine (uh HHAS _ h0).mono ?_
       rintro e w17 ⟨rfl,g17⟩
       have h17:=tn h0 g17
       clear g17
       go_wp2_with fail
       refine hK9.out _ _ h17 (fun _ => ?_)
       clear hK9 K9
       refine tq 28 134 (.binOp .neq 4 (.tmp 131) (.tmp 133) 4) ((.bool false)) h17 ?_
       refine tq 29 135 (.pick (.tmp 125) (.const (.bool true)) (.tmp 134)) ((.bool false)) h17 ?_
       (try simp only[pq])
       refine wpAnyH_done (by kernel_rfl) ?_ _
       refine NoPanic.normal ?_
       have HK17:=hide ((uh HK15).none h17)
       clear h17 h0 HK15
       go_wp2
       go_roundw
       case rel=>exact ⟨k+1,by go_num,by omega,uh HK17⟩
       case measure=>simp[intOf];omega
     ·have hki:¬ (k:Int)<(m:Int):=by omega
      have h0:wr.grownBy wr.drew none:=zaj (zab _ _)
      obtain ⟨hy1,hst⟩:=(uh HK).d.stl
      have HC0:Hid (wr.cell? ⟨w1.heap.size,0,none⟩=some (.slice x1 y1 z1)):=(uh HK).b.cell 0
      have HSAME:Hid (∀ V sa sc b0,wr.grownBy V none→Stl V b0 sa sc (idsS S1)→Calls Tryz.prog 17 #[.slice sa (idsS S1).length sc,.slice x1 y1 z1] V fun e w'=>e = .returned (.bool true)∧V.grownBy w' none):=fun V sa sc b0 g hs=>by
       have:=zs2 V b0 _ sa x1 sc z1 (idsS S1) (idsS S1) hs (hst.kept g) (by simp[idsS];omega)
       rw[← hy1] at this
       simp only[decide_true] at this
       rw[hy1]
       rw[hy1] at this
       exact this
      clear hst hy1
      go_upto_region 20 with fail
      refine wp_region_noPanic ?_
      refine wp_region_held_drew (S:=fun V=>wr.grownBy V none) (by kernel_rfl) h0 (fun _ => ?_)
      refine tq 0 136 (.move (.tmp 5)) ((.pointer (some ⟨sb,0,none⟩))) h0 ?_
      refine tq 3 139 (.fieldAddr 28 (.tmp 6) 0) ((.pointer (some ⟨w1.heap.size,0,none⟩))) h0 ?_
      refine tz 4 140 (.load 25 (.tmp 139)) (.slice x1 y1 z1) h0 ?_ (y:=(Or.inl ⟨by rfl,fun V hV=>by (have hv1:=hV.cell (uh HC0) (by simp);go_simp)⟩))
      (try simp only[pq])
      refine rd 1 (some 137) (.call { callee := .value (.func 19),args := #[(.tmp 136)],argTypes := #[24] }) (fun K9 hK9 => ?_)
      go_simp
      go_at_call 19
      refine (zok _ (some ⟨sb,0,none⟩) S1 ((uh HK).none h0).s.sat).mono ?_
      rintro e q1 ⟨v1,rfl,ho1,g1⟩
      obtain ⟨fa,fc,rfl,hFi,-⟩:=(⟨ho1,fun x hx=>zv7 (uh HK).s.ok ((zem S1 x).2 hx)⟩:Nam q1 _ v1 (idsS S1)).open
      have h1:=tn h0 g1
      clear ho1 g1
      go_wp2_with fail
      refine hK9.out _ _ h1 (fun _ => ?_)
      clear hK9 K9
      (try simp only[pq])
      refine rd 2 (some 138) (.call { callee := .value (.func 18),args := #[(.tmp 137)],argTypes := #[29] }) (fun K9 hK9 => ?_)
      go_simp
      go_at_call 18
      refine (zp7 _ _ _ (idsS S1) hFi (by simp[idsS];omega)).mono ?_
      rintro e q2 ⟨v2,rfl,hs2,g2⟩
      obtain ⟨sa2,sc2,rfl,hr2⟩:=hs2.open
      have h2:=tn h1 g2
      clear hs2 g2 hFi
      go_wp2_with fail
      refine hK9.out _ _ h2 (fun _ => ?_)
      clear hK9 K9
      (try simp only[pq])
      refine rd 5 (some 141) (.call { callee := .value (.func 17),args := #[(.tmp 138),(.tmp 140)],argTypes := #[25,25] }) (fun K9 hK9 => ?_)
      go_simp
      go_at_call 17
      refine (uh HSAME _ _ _ _ h2 hr2).mono ?_
      rintro e q3 ⟨rfl,g3⟩
      have h3:=tn h2 g3
      clear g3 hr2
      go_wp2_with fail
      refine hK9.out _ _ h3 (fun _ => ?_)
      clear hK9 K9
      refine tq 6 142 (.move (.tmp 141)) ((.bool true)) h3 ?_
      (try simp only[pq])
      refine rd 7 (some 143) (.call { callee := .value (.func 20),args := #[],argTypes := #[] }) (fun K9 hK9 => ?_)
      go_simp
      go_at_call 20
      refine (zvz _ ((uh HT).kept0 (tn (uh HK).g h3))).mono ?_
      rintro e q4 ⟨rfl,g4⟩
      have h4:=tn h3 g4
      clear g4
      go_wp2_with fail
      refine hK9.out _ _ h4 (fun _ => ?_)
      clear hK9 K9
      refine tq 8 144 (.pick (.tmp 142) (.tmp 143) (.const (.bool false))) ((.bool true)) h4 ?_
      refine tq 9 4 (.assign (.tmp 144)) ((.bool true)) h4 ?_
      (try simp only[pq])
      refine wpAnyH_done (by kernel_rfl) ?_ _
      refine NoPanic.normal ?_
      go_wp2
      go_ret
      exact ⟨rfl,tn (uh HK).g h4⟩
end Go.Proofs.YthhnfloohbdaiaaGreatDoor
