/- Lemmas. -/
import Derived.Test.YthhnfloohbdaiaaGreatDoorRGLog
import Derived.Test.YthhnfloohbdaiaaGreatDoorGSame
import Derived.Test.YthhnfloohbdaiaaGreatDoorGOne
import Derived.Deep.DeepCutAuto
namespace Go.Proofs.YthhnfloohbdaiaaGreatDoor
open Go.RowKit
theorem ztw {S:List ObE} (hS:SetS S) {tip:List UInt8} {T:List (List UInt8)} (h:zi1 S tip T):∀ x∈T,x.length=32:=by
 intro x hx
 rcases h with ⟨-,rfl⟩ | ⟨h,-⟩
 ·cases hx
 ·obtain ⟨e,he,-⟩:=zv6 (h.com x hx)
  obtain ⟨h1,h2⟩:=ze1 he
  rw[← h2]
  exact hS.len e h1
theorem zwn {S:List ObE} {tip:List UInt8} {T:List (List UInt8)} (h:zi1 S tip T):T.length≤S.length:=by
 rcases h with ⟨-,rfl⟩ | ⟨h,-⟩
 ·exact Nat.zero_le _
 ·exact h.few
set_option maxRecDepth 100000 in
set_option maxHeartbeats 8000000 in
theorem ztx (w:World) (ao:Option Addr) (ac n:Nat) (cb:Calls Tryz.prog 9 #[.slice ao n ac] w fun e w'=>zzd w w' e) (za zb:Int) (hT:Tabs w) :
  Calls Tryz.prog 5 #[.slice ao n ac,.int .i64 za,.int .i64 zb] w fun e w'=>e = .returned (.bool true)∧w.grownBy w' none:=by
 have hzv:=zgl
 obtain ⟨Z,hZ,hzi⟩:=zdo
 obtain ⟨HZ,HT⟩:=zh2 hZ hT
 clear hT hZ
 go_enter Tryz.func5,Tryz.ntmps5
 go_wp2_with fail
 refine cb.mono ?_
 rintro e w1 ⟨sb,mb,a1,a2,ia,n1,n2,c1,c2,ic,S,IL,rfl,hb⟩
 clear cb
 obtain ⟨W2,hW2,hB2,g2⟩:=zbl w1 28 #[.slice none 0 0,.slice none 0 0] [.slice a1 n1 c1,.slice a2 n2 c2]
 have hk2:=hb.gk hB2 g2
 have hI24:=hb.few
 have hS24:=hb.sew
 have HSS:=hide hb.set.ok
 have HWI:=hide hb.wid
 have HW2:=hide hW2
 have HB2:=hide (Blk.new w1 28 [.slice none 0 0,.slice none 0 0])
 obtain ⟨m,hm⟩:∃ m,m=IL.length:=⟨_,rfl⟩
 rw[← hm] at hk2 hI24 ⊢
 obtain ⟨HM,HK2⟩:=zh2 hm hk2
 clear hb hW2 hB2 g2 hk2 hm
 by_cases hm0:m=0
 ·subst hm0
  clear hI24
  go_upto_region 3 with (refine wpList_store_row rfl 28 _ _ rfl w1.heap.size _ rfl rfl _ _ (uh HB2) zas rfl (zch _ _ _ _ _ _) ?_;rw[← uh HW2])
  refine za3 fun O hO => ?_
  refine zaa (by rw[hO];kernel_rfl) (.pointer (some ⟨sb,0,none⟩)) (fun K9 hK9=>by go_simp;exact hK9) ?_
  (try simp only[pq])
  refine zaa (by rw[hO];kernel_rfl) (.bool true) (fun K9 hK9=>by go_simp;exact hK9) ?_
  (try simp only[pq])
  refine zaa (by rw[hO];kernel_rfl) (.bool true) (fun K9 hK9=>by go_simp;exact hK9) ?_
  (try simp only[pq])
  refine zbj (by rw[hO];kernel_rfl) fun K9 hK9 => ?_
  go_simp
  go_at_call 20
  refine (zon W2 ((uh HT).kept0 (uh HK2).g)).mono ?_
  rintro e w9 ⟨rfl,g9⟩
  have G9:=tn (uh HK2).g g9
  refine hK9 _ _ ?_
  clear hK9 K9
  (try simp only[pq])
  refine zaa (by rw[hO];kernel_rfl) (.bool true) (fun K9 hK9=>by go_simp;exact hK9) ?_
  (try simp only[pq])
  refine zaa (by rw[hO];kernel_rfl) (.bool true) (fun K9 hK9=>by go_simp;exact hK9) ?_
  (try simp only[pq])
  go_wp2
  go_ret
  exact ⟨rfl,G9⟩
 have hmi:¬ (m:Int)=0:=by omega
 have hmj:((m:Int) == 0)=false:=by simp;omega
 obtain ⟨r1,s1,q1,e1,e2,e3,hq1⟩:=zm4 za m (by omega) (by omega)
 obtain ⟨r2,s2,q2,f1,f2,f3,hq2⟩:=zm4 zb m (by omega) (by omega)
 have hqI1:q1<IL.length:=by have:=uh HM;omega
 have hqI2:q2<IL.length:=by have:=uh HM;omega
 obtain ⟨ib,io,hia,hrow1⟩:=((uh HK2).rows (.slice ia m ic,IL) (by simp)).at q1 hqI1
 obtain ⟨ib2,io2,hia2,hrow2⟩:=((uh HK2).rows (.slice ia m ic,IL) (by simp)).at q2 hqI2
 have lX:=uh HWI _ (List.getElem_mem hqI1)
 have lY:=uh HWI _ (List.getElem_mem hqI2)
 have hee:ib2=ib∧io2=io:=by rw[hia] at hia2;injection hia2 with q;injection q with q3 q4;exact ⟨q3.symm,q4.symm⟩
 obtain ⟨rfl,rfl⟩:=hee
 clear hia2
 obtain ⟨x,hx⟩:∃ x,x=IL[q1]:=⟨_,rfl⟩
 obtain ⟨y,hy⟩:∃ x,x=IL[q2]:=⟨_,rfl⟩
 rw[← hx] at hrow1 lX
 rw[← hy] at hrow2 lY
 obtain ⟨AB,hAB⟩:=kyb x lX
 obtain ⟨BB,hBB⟩:=kyb y lY
 rw[← hAB.e] at hrow1
 rw[← hBB.e] at hrow2
 obtain ⟨HAB,HBB,HR1,HR2,HLX,HLY⟩:=zh6 hAB hBB hrow1 hrow2 lX lY
 have h0:W2.grownBy W2.drew none:=zak (zab _ _)
 clear hx hy hAB hBB hrow1 hrow2 hqI1 hqI2 lX lY
 subst hia
 go_upto_region 4 with (refine wpList_store_row rfl 28 _ _ rfl w1.heap.size _ rfl rfl _ _ (uh HB2) zas rfl (zch _ _ _ _ _ _) ?_;rw[← uh HW2])
 go_cut [10,11] (fun x10 x11 wx=>∃ p q:Nat,x10 = .pointer (some ⟨p,0,none⟩)∧x11 = .pointer (some ⟨q,0,none⟩)∧Blk wx p 33 AB∧Blk wx q 33 BB∧W2.grownBy wx none)
 case first =>
  refine wp_region_noPanic ?_
  refine wp_region_held_drew (S:=fun V=>W2.grownBy V none) (by kernel_rfl) h0 (fun _ => ?_)
  obtain ⟨WD,hWD⟩:∃ V,V=W2.drew:=⟨_,rfl⟩
  rw[← hWD]
  rw[← hWD] at h0
  clear hWD
  refine tq 0 30 (.move (.tmp 9)) (.slice (some ⟨ib2,io2,none⟩) m ic) h0 ?_
  refine tq 1 31 (.move (.tmp 1)) (.int .i64 za) h0 ?_
  refine tq 2 32 (.move (.tmp 9)) (.slice (some ⟨ib2,io2,none⟩) m ic) h0 ?_
  refine tq 5 35 (.move (.tmp 9)) (.slice (some ⟨ib2,io2,none⟩) m ic) h0 ?_
  (try simp only[pq])
  refine tq 8 38 (.move (.tmp 9)) (.slice (some ⟨ib2,io2,none⟩) m ic) h0 ?_
  refine tq 13 43 (.move (.tmp 9)) (.slice (some ⟨ib2,io2,none⟩) m ic) h0 ?_
  refine tq 14 44 (.move (.tmp 2)) (.int .i64 zb) h0 ?_
  refine tq 15 45 (.move (.tmp 9)) (.slice (some ⟨ib2,io2,none⟩) m ic) h0 ?_
  (try simp only[pq])
  refine tq 18 48 (.move (.tmp 9)) (.slice (some ⟨ib2,io2,none⟩) m ic) h0 ?_
  refine tq 21 51 (.move (.tmp 9)) (.slice (some ⟨ib2,io2,none⟩) m ic) h0 ?_
  refine tq 3 33 (.call { callee := .builtin .len,args := #[(.tmp 32)],argTypes := #[29] }) (.int .i64 (m:Int)) h0 ?_
  refine tq 6 36 (.call { callee := .builtin .len,args := #[(.tmp 35)],argTypes := #[29] }) (.int .i64 (m:Int)) h0 ?_
  (try simp only[pq])
  refine tq 9 39 (.call { callee := .builtin .len,args := #[(.tmp 38)],argTypes := #[29] }) (.int .i64 (m:Int)) h0 ?_
  refine tq 16 46 (.call { callee := .builtin .len,args := #[(.tmp 45)],argTypes := #[29] }) (.int .i64 (m:Int)) h0 ?_
  refine tq 19 49 (.call { callee := .builtin .len,args := #[(.tmp 48)],argTypes := #[29] }) (.int .i64 (m:Int)) h0 ?_
  refine tq 22 52 (.call { callee := .builtin .len,args := #[(.tmp 51)],argTypes := #[29] }) (.int .i64 (m:Int)) h0 ?_
  (try simp only[pq])
  refine tq 4 34 (.binOp .rem 3 (.tmp 31) (.tmp 33) 3) (.int .i64 r1) h0 ?_
  refine tq 17 47 (.binOp .rem 3 (.tmp 44) (.tmp 46) 3) (.int .i64 r2) h0 ?_
  refine tq 7 37 (.binOp .add 3 (.tmp 34) (.tmp 36) 3) (.int .i64 s1) h0 ?_
  refine tq 20 50 (.binOp .add 3 (.tmp 47) (.tmp 49) 3) (.int .i64 s2) h0 ?_
  (try simp only[pq])
  refine tq 10 40 (.binOp .rem 3 (.tmp 37) (.tmp 39) 3) (.int .i64 (q1:Int)) h0 ?_
  refine tq 23 53 (.binOp .rem 3 (.tmp 50) (.tmp 52) 3) (.int .i64 (q2:Int)) h0 ?_
  refine tq 11 41 (.indexAddr 29 (.tmp 30) (.tmp 40)) (.pointer (some ⟨ib2,io2+q1*32,none⟩)) h0 ?_
  refine tq 24 54 (.indexAddr 29 (.tmp 43) (.tmp 53)) (.pointer (some ⟨ib2,io2+q2*32,none⟩)) h0 ?_
  (try simp only[pq])
  refine tz 12 42 (.load 33 (.tmp 41)) (.agg AB.toArray) h0 ?_ (y:=(yieldsIf_load_mid (by rfl) _ _ rfl _ _ rfl AB _ (fun V hV=>zaf (uh HR1) hV (by simp)) Tryz.underlying33 rfl (uh HAB).info))
  refine tz 25 55 (.load 33 (.tmp 54)) (.agg BB.toArray) h0 ?_ (y:=(yieldsIf_load_mid (by rfl) _ _ rfl _ _ rfl BB _ (fun V hV=>zaf (uh HR2) hV (by simp)) Tryz.underlying33 rfl (uh HBB).info))
  (try simp only[pq])
  refine wpAnyH_ready (rs:=[26,27]) (by kernel_rfl) (by simp) ?_
  refine AllReadyH.cons (o:=⟨some 10,.alloc 33,_,_,_,_⟩) rfl (fun K9 hK9 => ?_) (AllReadyH.cons (o:=⟨some 11,.alloc 33,_,_,_,_⟩) rfl (fun K9 hK9 => ?_) AllReadyH.nil)
  ·obtain ⟨wa10,hwa,hB10,ga⟩:=ze6 WD 33 Z
   go_simp
   rw[← hwa]
   have ha10:=tn h0 ga
   have hp10:W2.heap.size≤WD.heap.size:=(h0).size
   refine hK9.out _ _ ha10 (fun _ => ?_)
   clear hK9 K9 hwa ga
   (try simp only[pq])
   refine rd 27 (some 11) (.alloc 33) (fun K9 hK9 => ?_)
   obtain ⟨wa11,hwa,hB11,ga⟩:=ze6 wa10 33 Z
   go_simp
   rw[← hwa]
   have ha11:=tn ha10 ga
   have hp11:W2.heap.size≤wa10.heap.size:=(ha10).size
   have hlt10:=hB10.lt
   replace hB10:=hB10.kept ga (by simp)
   refine hK9.out _ _ ha11 (fun _ => ?_)
   clear hK9 K9 hwa ga
   (try simp only[pq])
   refine rd 28 none (.store 33 (.tmp 10) (.tmp 42)) (fun K9 hK9 => ?_)
   rw[if_pos (by rfl)]
   refine wp_store_row _ _ _ rfl (WD.heap.size) AB.toArray rfl rfl _ _ hB10 (uh HAB).info2 ((uh HAB).zed (uh HZ)) (uh HAB).one ?_
   obtain ⟨ws10,hws⟩:∃ V,V=World.setRow (wa11) (WD.heap.size) AB.toArray:=⟨_,rfl⟩
   have hs10:W2.grownBy ws10 none:=by rw[hws];exact zam ha11 _ (Or.inl hp10)
   have gr10:World.grownBy (wa11) ws10 (some (WD.heap.size)):=by rw[hws];exact zam (zab _ _) _ (Or.inr rfl)
   have hC10:Blk ws10 (WD.heap.size) 33 AB:=by rw[hws];exact hB10.row AB
   replace hB11:=hB11.kept gr10 (by simp;omega)
   rw[← hws]
   clear hws
   refine hK9.out _ _ hs10 (fun _ => ?_)
   clear hK9 K9
   (try simp only[Act.put])
   refine rd 29 none (.store 33 (.tmp 11) (.tmp 55)) (fun K9 hK9 => ?_)
   rw[if_pos (by rfl)]
   refine wp_store_row _ _ _ rfl (wa10.heap.size) BB.toArray rfl rfl _ _ hB11 (uh HBB).info2 ((uh HBB).zed (uh HZ)) (uh HBB).one ?_
   obtain ⟨ws11,hws⟩:∃ V,V=World.setRow (ws10) (wa10.heap.size) BB.toArray:=⟨_,rfl⟩
   have hs11:W2.grownBy ws11 none:=by rw[hws];exact zam hs10 _ (Or.inl hp11)
   have gr11:World.grownBy (ws10) ws11 (some (wa10.heap.size)):=by rw[hws];exact zam (zab _ _) _ (Or.inr rfl)
   have hC11:Blk ws11 (wa10.heap.size) 33 BB:=by rw[hws];exact hB11.row BB
   replace hC10:=hC10.kept gr11 (by simp;omega)
   rw[← hws]
   clear hws
   refine hK9.out _ _ hs11 (fun _ => ?_)
   clear hK9 K9
   (try simp only[Act.put])
   refine wpAnyH_done (by kernel_rfl) ?_ _
   refine NoPanic.normal ?_
   go_wp2_with fail
   go_meet
   case rel=>exact ⟨WD.heap.size,wa10.heap.size,rfl,rfl,hC10,hC11,hs11⟩
  ·obtain ⟨wa11,hwa,hB11,ga⟩:=ze6 WD 33 Z
   go_simp
   rw[← hwa]
   have ha11:=tn h0 ga
   have hp11:W2.heap.size≤WD.heap.size:=(h0).size
   refine hK9.out _ _ ha11 (fun _ => ?_)
   clear hK9 K9 hwa ga
   (try simp only[pq])
   refine rd 26 (some 10) (.alloc 33) (fun K9 hK9 => ?_)
   obtain ⟨wa10,hwa,hB10,ga⟩:=ze6 wa11 33 Z
   go_simp
   rw[← hwa]
   have ha10:=tn ha11 ga
   have hp10:W2.heap.size≤wa11.heap.size:=(ha11).size
   have hlt11:=hB11.lt
   replace hB11:=hB11.kept ga (by simp)
   refine hK9.out _ _ ha10 (fun _ => ?_)
   clear hK9 K9 hwa ga
   (try simp only[pq])
   refine rd 28 none (.store 33 (.tmp 10) (.tmp 42)) (fun K9 hK9 => ?_)
   rw[if_pos (by rfl)]
   refine wp_store_row _ _ _ rfl (wa11.heap.size) AB.toArray rfl rfl _ _ hB10 (uh HAB).info2 ((uh HAB).zed (uh HZ)) (uh HAB).one ?_
   obtain ⟨ws10,hws⟩:∃ V,V=World.setRow (wa10) (wa11.heap.size) AB.toArray:=⟨_,rfl⟩
   have hs10:W2.grownBy ws10 none:=by rw[hws];exact zam ha10 _ (Or.inl hp10)
   have gr10:World.grownBy (wa10) ws10 (some (wa11.heap.size)):=by rw[hws];exact zam (zab _ _) _ (Or.inr rfl)
   have hC10:Blk ws10 (wa11.heap.size) 33 AB:=by rw[hws];exact hB10.row AB
   replace hB11:=hB11.kept gr10 (by simp;omega)
   rw[← hws]
   clear hws
   refine hK9.out _ _ hs10 (fun _ => ?_)
   clear hK9 K9
   (try simp only[Act.put])
   refine rd 29 none (.store 33 (.tmp 11) (.tmp 55)) (fun K9 hK9 => ?_)
   rw[if_pos (by rfl)]
   refine wp_store_row _ _ _ rfl (WD.heap.size) BB.toArray rfl rfl _ _ hB11 (uh HBB).info2 ((uh HBB).zed (uh HZ)) (uh HBB).one ?_
   obtain ⟨ws11,hws⟩:∃ V,V=World.setRow (ws10) (WD.heap.size) BB.toArray:=⟨_,rfl⟩
   have hs11:W2.grownBy ws11 none:=by rw[hws];exact zam hs10 _ (Or.inl hp11)
   have gr11:World.grownBy (ws10) ws11 (some (WD.heap.size)):=by rw[hws];exact zam (zab _ _) _ (Or.inr rfl)
   have hC11:Blk ws11 (WD.heap.size) 33 BB:=by rw[hws];exact hB11.row BB
   replace hC10:=hC10.kept gr11 (by simp;omega)
   rw[← hws]
   clear hws
   refine hK9.out _ _ hs11 (fun _ => ?_)
   clear hK9 K9
   (try simp only[Act.put])
   refine wpAnyH_done (by kernel_rfl) ?_ _
   refine NoPanic.normal ?_
   go_wp2_with fail
   go_meet
   case rel=>exact ⟨wa11.heap.size,WD.heap.size,rfl,rfl,hC10,hC11,hs11⟩
 case rest =>
  obtain ⟨p,q,rfl,rfl,hBp,hBq,hgx⟩:=hcut
  have hk:=(uh HK2).none hgx
  obtain ⟨TX,hTX⟩:∃ T,T=str x:=⟨_,rfl⟩
  obtain ⟨TY,hTY⟩:∃ T,T=str y:=⟨_,rfl⟩
  have hLX:TX.toList=x:=by rw[hTX,za5]
  have hLY:TY.toList=y:=by rw[hTY,za5]
  obtain ⟨ls,hls⟩:∃ b,b=za8 x y:=⟨_,rfl⟩
  have hls2:Op.bytesLess x y=ls:=hls.symm
  have HCX:Hid (∀ V,wc.grownBy V none→(convert 37 9 (.slice (some ⟨p,0,none⟩) 32 32)).run Tryz.prog V = .ok (.string TX) V):=fun V hV=>by
   have hr:=zal (hBp.kept hV (by simp))
   rw[(uh HAB).e] at hr
   have:=zaz (zci hr (by rw[uh HLX];unfold maxLen;omega))
   rw[uh HLX,← hTX] at this
   exact this
  have HCY:Hid (∀ V,wc.grownBy V none→(convert 37 9 (.slice (some ⟨q,0,none⟩) 32 32)).run Tryz.prog V = .ok (.string TY) V):=fun V hV=>by
   have hr:=zal (hBq.kept hV (by simp))
   rw[(uh HBB).e] at hr
   have:=zaz (zci hr (by rw[uh HLY];unfold maxLen;omega))
   rw[uh HLY,← hTY] at this
   exact this
  have HFOL:Hid (∀ V,wc.grownBy V none→Calls Tryz.prog 26 #[.pointer (some ⟨sb,0,none⟩),.agg AB.toArray,.agg BB.toArray] V fun e w'=>∃ y9,e = .returned (.bool y9)∧(y9=true↔Rch (prS S) [x] y)∧V.grownBy w' none):=fun V hV=>by
   have:=ziy V (some ⟨sb,0,none⟩) S (hk.none hV).s.sat x y (uh HLX) (uh HLY)
   rw[(uh HAB).key,(uh HBB).key] at this
   exact this
  have HLOG:Hid (∀ V,wc.grownBy V none→Calls Tryz.prog 28 #[.pointer (some ⟨sb,0,none⟩),.agg AB.toArray] V fun e w'=>∃ v T,e = .returned v∧zi1 S x T∧w'.ownsRow V.heap.size 33 32 v T.length (T.flatMap (·.map bv))∧V.grownBy w' none):=fun V hV=>by
   have:=zof V (some ⟨sb,0,none⟩) S (hk.none hV).s.sat x (uh HLX)
   rw[(uh HAB).key] at this
   exact this
  have HLES:Hid (∀ V,Calls Tryz.prog 30 #[.agg AB.toArray,.agg BB.toArray] V fun e w'=>e = .returned (.bool ls)∧V.grownBy w' none):=fun V=>by
   have:=zlr V x y (uh HLX) (uh HLY)
   rw[(uh HAB).key,(uh HBB).key,← hls] at this
   exact this
  have HRF:Hid (∀ V,wc.grownBy V none→Calls Tryz.prog 27 #[.agg #[.slice a1 n1 c1,.slice a2 n2 c2],.string TX,.string TY] V fun e w'=>∃ b,e = .returned (.bool b)∧(b=true↔Rch (prS S) [x] y)∧V.grownBy w' none):=fun V hV=>by
   have:=zts V w.heap.size _ _ S (hk.none hV).d (uh HSS) x y
   rw[← hTX,← hTY] at this
   exact this
  have HRL:Hid (∀ V,wc.grownBy V none→Calls Tryz.prog 29 #[.agg #[.slice a1 n1 c1,.slice a2 n2 c2],.string TX] V fun e w'=>∃ (v:Value) (T:List (List UInt8)),e = .returned v∧Stg w' V.heap.size v T∧zi1 S x T∧V.grownBy w' none):=fun V hV=>by
   have:=ztt V w.heap.size _ _ S (hk.none hV).d (uh HSS) x
   rw[← hTX] at this
   exact this
  have HRS:=hide (zal hk.b)
  have HRP:=hide (zal hBp)
  have HRQ:=hide (zal hBq)
  have HK:=hide hk
  have h0:wc.grownBy wc.drew none:=zak (zab _ _)
  clear hgx hk hTX hTY hls hBp hBq HK2 HW2 HB2 HR1 HR2 HWI e1 e2 e3 f1 f2 f3 hq1 hq2
  go_upto_region 5 with fail
  refine wp_region_noPanic ?_
  refine wp_region_held_drew (S:=fun V=>wc.grownBy V none) (by kernel_rfl) h0 (fun _ => ?_)
  refine tq 0 56 (.move (.tmp 7)) ((.pointer (some ⟨sb,0,none⟩))) h0 ?_
  refine tz 1 57 (.load 33 (.tmp 10)) (.agg AB.toArray) h0 ?_ (y:=(yieldsIf_load_mid (by rfl) _ _ rfl _ _ rfl AB _ (fun V hV=>zaf (uh HRP) hV (by simp)) Tryz.underlying33 rfl (uh HAB).info))
  refine tz 2 58 (.load 33 (.tmp 11)) (.agg BB.toArray) h0 ?_ (y:=(yieldsIf_load_mid (by rfl) _ _ rfl _ _ rfl BB _ (fun V hV=>zaf (uh HRQ) hV (by simp)) Tryz.underlying33 rfl (uh HBB).info))
  refine tz 4 60 (.load 28 (.tmp 8)) (.agg [Value.slice a1 n1 c1,Value.slice a2 n2 c2].toArray) h0 ?_ (y:=(yieldsIf_load_mid (by rfl) _ _ rfl _ _ rfl [Value.slice a1 n1 c1,Value.slice a2 n2 c2] _ (fun V hV=>zaf (uh HRS) hV (by simp)) Tryz.underlying28 rfl zas))
  (try simp only[pq])
  refine tz 5 61 (.slice 33 (.tmp 10) none none none) ((.slice (some ⟨p,0,none⟩) 32 32)) h0 ?_ (y:=(Or.inl ⟨by rfl,fun V hV=>by (have z9:=zbw p 0 V;go_simp)⟩))
  refine tz 6 62 (.convert 37 9 (.tmp 61)) ((.string TX)) h0 ?_ (y:=(Or.inl ⟨by rfl,fun V hV=>by (have z9:=uh HCX V hV;go_simp)⟩))
  refine tz 7 63 (.slice 33 (.tmp 11) none none none) ((.slice (some ⟨q,0,none⟩) 32 32)) h0 ?_ (y:=(Or.inl ⟨by rfl,fun V hV=>by (have z9:=zbw q 0 V;go_simp)⟩))
  refine tz 8 64 (.convert 37 9 (.tmp 63)) ((.string TY)) h0 ?_ (y:=(Or.inl ⟨by rfl,fun V hV=>by (have z9:=uh HCY V hV;go_simp)⟩))
  (try simp only[pq])
  refine rd 3 (some 59) (.call { callee := .value (.func 26),args := #[(.tmp 56),(.tmp 57),(.tmp 58)],argTypes := #[24,33,33] }) (fun K9 hK9 => ?_)
  go_simp
  go_at_call 26
  refine (uh HFOL _ h0).mono ?_
  rintro e q1 ⟨fy,rfl,hfy,g1⟩
  have h1:=tn h0 g1
  have HFY:=hide hfy
  clear hfy g1
  go_wp2_with fail
  refine hK9.out _ _ h1 (fun _ => ?_)
  clear hK9 K9
  (try simp only[pq])
  refine rd 9 (some 65) (.call { callee := .value (.func 27),args := #[(.tmp 60),(.tmp 62),(.tmp 64)],argTypes := #[28,9,9] }) (fun K9 hK9 => ?_)
  go_simp
  go_at_call 27
  refine (uh HRF _ h1).mono ?_
  rintro e q2 ⟨fz,rfl,hfz,g2⟩
  have h2:=tn h1 g2
  obtain rfl:fz=fy:=by rw[Bool.eq_iff_iff,hfz,uh HFY]
  clear hfz g2 HFY
  go_wp2_with fail
  refine hK9.out _ _ h2 (fun _ => ?_)
  clear hK9 K9
  refine tq 10 66 (.binOp .eql 4 (.tmp 59) (.tmp 65) 4) ((.bool true)) h2 ?_
  refine tq 11 67 (.move (.tmp 66)) ((.bool true)) h2 ?_
  refine tq 12 68 (.move (.tmp 7)) ((.pointer (some ⟨sb,0,none⟩))) h2 ?_
  (try simp only[pq])
  refine tz 13 69 (.load 33 (.tmp 10)) (.agg AB.toArray) h2 ?_ (y:=(yieldsIf_load_mid (by rfl) _ _ rfl _ _ rfl AB _ (fun V hV=>zaf (uh HRP) hV (by simp)) Tryz.underlying33 rfl (uh HAB).info))
  refine tz 16 72 (.load 28 (.tmp 8)) (.agg [Value.slice a1 n1 c1,Value.slice a2 n2 c2].toArray) h2 ?_ (y:=(yieldsIf_load_mid (by rfl) _ _ rfl _ _ rfl [Value.slice a1 n1 c1,Value.slice a2 n2 c2] _ (fun V hV=>zaf (uh HRS) hV (by simp)) Tryz.underlying28 rfl zas))
  refine tz 17 73 (.slice 33 (.tmp 10) none none none) ((.slice (some ⟨p,0,none⟩) 32 32)) h2 ?_ (y:=(Or.inl ⟨by rfl,fun V hV=>by (have z9:=zbw p 0 V;go_simp)⟩))
  refine tz 18 74 (.convert 37 9 (.tmp 73)) ((.string TX)) h2 ?_ (y:=(Or.inl ⟨by rfl,fun V hV=>by (have z9:=uh HCX V hV;go_simp)⟩))
  (try simp only[pq])
  refine rd 14 (some 70) (.call { callee := .value (.func 28),args := #[(.tmp 68),(.tmp 69)],argTypes := #[24,33] }) (fun K9 hK9 => ?_)
  go_simp
  go_at_call 28
  refine (uh HLOG _ h2).mono ?_
  rintro e q3 ⟨v3,T,rfl,hlog,ho3,g3⟩
  have h3:=tn h2 g3
  obtain ⟨la,lc,rfl,hLi,-⟩:=(⟨ho3,ztw (uh HSS) hlog⟩:Nam q3 _ v3 T).open
  have hT24:T.length≤24:=Nat.le_trans (zwn hlog) hS24
  have HLO:=hide hlog
  clear ho3 g3 hlog
  go_wp2_with fail
  refine hK9.out _ _ h3 (fun _ => ?_)
  clear hK9 K9
  (try simp only[pq])
  refine rd 15 (some 71) (.call { callee := .value (.func 18),args := #[(.tmp 70)],argTypes := #[29] }) (fun K9 hK9 => ?_)
  go_simp
  go_at_call 18
  refine (zp9 _ _ _ T hLi (by omega)).mono ?_
  rintro e q4 ⟨v4,rfl,hs4,g4⟩
  obtain ⟨sa4,sc4,rfl,hr4⟩:=hs4.open
  have h4:=tn h3 g4
  clear hs4 g4 hLi
  go_wp2_with fail
  refine hK9.out _ _ h4 (fun _ => ?_)
  clear hK9 K9
  (try simp only[pq])
  refine rd 19 (some 75) (.call { callee := .value (.func 29),args := #[(.tmp 72),(.tmp 74)],argTypes := #[28,9] }) (fun K9 hK9 => ?_)
  go_simp
  go_at_call 29
  refine (uh HRL _ h4).mono ?_
  rintro e q5 ⟨v5,T5,rfl,hs5,hlog5,g5⟩
  obtain rfl:T=T5:=(uh HLO).one hlog5
  obtain ⟨sa5,sc5,rfl,hr5⟩:=hs5.open
  have h5:=tn h4 g5
  have hr45:=hr4.kept g5
  clear hs5 g5 hr4 hlog5
  go_wp2_with fail
  refine hK9.out _ _ h5 (fun _ => ?_)
  clear hK9 K9
  (try simp only[pq])
  refine rd 20 (some 76) (.call { callee := .value (.func 17),args := #[(.tmp 71),(.tmp 75)],argTypes := #[25,25] }) (fun K9 hK9 => ?_)
  go_simp
  go_at_call 17
  refine (ztu _ _ _ _ _ _ _ T T hr45 hr5 (by omega)).mono ?_
  rintro e q6 ⟨rfl,g6⟩
  simp only[decide_true]
  have h6:=tn h5 g6
  clear g6 hr45 hr5
  go_wp2_with fail
  refine hK9.out _ _ h6 (fun _ => ?_)
  clear hK9 K9
  refine tq 21 77 (.pick (.tmp 67) (.tmp 76) (.const (.bool false))) ((.bool true)) h6 ?_
  refine tq 22 78 (.move (.tmp 77)) ((.bool true)) h6 ?_
  refine tz 23 79 (.load 33 (.tmp 10)) (.agg AB.toArray) h6 ?_ (y:=(yieldsIf_load_mid (by rfl) _ _ rfl _ _ rfl AB _ (fun V hV=>zaf (uh HRP) hV (by simp)) Tryz.underlying33 rfl (uh HAB).info))
  (try simp only[pq])
  refine tz 24 80 (.load 33 (.tmp 11)) (.agg BB.toArray) h6 ?_ (y:=(yieldsIf_load_mid (by rfl) _ _ rfl _ _ rfl BB _ (fun V hV=>zaf (uh HRQ) hV (by simp)) Tryz.underlying33 rfl (uh HBB).info))
  refine tz 26 82 (.slice 33 (.tmp 10) none none none) ((.slice (some ⟨p,0,none⟩) 32 32)) h6 ?_ (y:=(Or.inl ⟨by rfl,fun V hV=>by (have z9:=zbw p 0 V;go_simp)⟩))
  refine tz 27 83 (.convert 37 9 (.tmp 82)) ((.string TX)) h6 ?_ (y:=(Or.inl ⟨by rfl,fun V hV=>by (have z9:=uh HCX V hV;go_simp)⟩))
  refine tz 28 84 (.slice 33 (.tmp 11) none none none) ((.slice (some ⟨q,0,none⟩) 32 32)) h6 ?_ (y:=(Or.inl ⟨by rfl,fun V hV=>by (have z9:=zbw q 0 V;go_simp)⟩))
  (try simp only[pq])
  refine tz 29 85 (.convert 37 9 (.tmp 84)) ((.string TY)) h6 ?_ (y:=(Or.inl ⟨by rfl,fun V hV=>by (have z9:=uh HCY V hV;go_simp)⟩))
  refine tq 30 86 (.binOp .lss 9 (.tmp 83) (.tmp 85) 9) ((.bool ls)) h6 ?_
  (try simp only[pq])
  refine rd 25 (some 81) (.call { callee := .value (.func 30),args := #[(.tmp 79),(.tmp 80)],argTypes := #[33,33] }) (fun K9 hK9 => ?_)
  go_simp
  go_at_call 30
  refine (uh HLES _).mono ?_
  rintro e q7 ⟨rfl,g7⟩
  have h7:=tn h6 g7
  clear g7
  go_wp2_with fail
  refine hK9.out _ _ h7 (fun _ => ?_)
  clear hK9 K9
  refine tq 31 87 (.binOp .eql 4 (.tmp 81) (.tmp 86) 4) ((.bool true)) h7 ?_
  refine tq 32 88 (.pick (.tmp 78) (.tmp 87) (.const (.bool false))) ((.bool true)) h7 ?_
  refine tq 33 89 (.move (.tmp 88)) ((.bool true)) h7 ?_
  (try simp only[pq])
  refine rd 34 (some 90) (.call { callee := .value (.func 20),args := #[],argTypes := #[] }) (fun K9 hK9 => ?_)
  go_simp
  go_at_call 20
  refine (zon _ ((uh HT).kept0 ((uh HK).none h7).g)).mono ?_
  rintro e q9 ⟨rfl,g9⟩
  have h9:=tn h7 g9
  clear g9
  go_wp2_with fail
  refine hK9.out _ _ h9 (fun _ => ?_)
  clear hK9 K9
  refine tq 35 91 (.pick (.tmp 89) (.tmp 90) (.const (.bool false))) ((.bool true)) h9 ?_
  refine tq 36 6 (.assign (.tmp 91)) ((.bool true)) h9 ?_
  (try simp only[pq])
  refine wpAnyH_done (by kernel_rfl) ?_ _
  refine NoPanic.normal ?_
  go_wp2
  go_ret
  exact ⟨rfl,((uh HK).none h9).g⟩
end Go.Proofs.YthhnfloohbdaiaaGreatDoor
