/- Lemmas. -/
import Derived.Test.YthhnfloohbdaiaaGreatDoorWGFol
import Derived.Deep.DeepCutAuto
namespace Go.Proofs.YthhnfloohbdaiaaGreatDoor
open Go.RowKit
theorem zv5 {S:List ObE} (hS:SetS S) {tip:List UInt8} {T:List (List UInt8)} (h:zm6 S tip T):∀ x∈T,x.length=32:=by
 intro x hx
 rcases h with ⟨-,rfl⟩ | ⟨h,-⟩
 ·cases hx
 ·obtain ⟨e,he,-⟩:=zkp (h.com x hx)
  obtain ⟨h1,h2⟩:=zej he
  rw[← h2]
  exact hS.len e h1
theorem zx0 {S:List ObE} {x u:List UInt8} (h:u∈prS S x):u.length=32:=by
 unfold prS at h
 cases hl:lkS S x with
 | none=>rw[hl] at h;simp[prO] at h
 | some e=>rw[hl] at h;exact (zhp e.k e.d).2 u h
theorem zyx {d:List UInt8} {P:List (List UInt8)} (h:(telC 3 d).2.pars=P):P.length≤4:=by
 rw[← h]
 exact (zhp 3 d).1
set_option maxRecDepth 100000 in
set_option maxHeartbeats 8000000 in
theorem zna (w:World) (ao:Option Addr) (ac n:Nat) (cb:Calls Tryz.prog 9 #[.slice ao n ac] w fun e w'=>zyv w w' e) (z:Int) (hT:Tabs w) :
  Calls Tryz.prog 6 #[.slice ao n ac,.int .i64 z] w fun e w'=>e = .returned (.bool true)∧w.grownBy w' none:=by
 have hzv:=zgc
 have hzo:=zdj
 obtain ⟨Z,hZ,hzi⟩:=zdq
 obtain ⟨HZ,HT⟩:=zh2 hZ hT
 clear hT hZ
 go_enter Tryz.func6,Tryz.ntmps6
 go_wp2_with fail
 refine cb.mono ?_
 rintro e w1 ⟨sb,mb,a1,a2,ia,n1,n2,c1,c2,ic,S,IL,rfl,hb⟩
 clear cb
 obtain ⟨W2,hW2,hB2,g2⟩:=zbb w1 28 #[.slice none 0 0,.slice none 0 0] [.slice a1 n1 c1,.slice a2 n2 c2]
 have hk2:=hb.gk hB2 g2
 have hI24:=hb.few
 have hS24:=hb.sew
 have HSS:=hide hb.set.ok
 have HWI:=hide hb.wid
 have HW2:=hide hW2
 have HB2:=hide (Blk.new w1 28 [.slice none 0 0,.slice none 0 0])
 obtain ⟨m,hm⟩:∃ m,m=IL.length:=⟨_,rfl⟩
 rw[← hm] at hk2 hI24 ⊢
 obtain ⟨HM,HK2⟩:=zh2 hm hk2
 clear hb hW2 hB2 g2 hk2 hm
 by_cases hm0:m=0
 ·subst hm0
  clear hI24
  go_upto_region 3 with (refine wpList_store_row rfl 28 _ _ rfl w1.heap.size _ rfl rfl _ _ (uh HB2) za3 rfl (zcd _ _ _ _ _ _) ?_;rw[← uh HW2])
  refine zbt fun O hO => ?_
  refine zad (by rw[hO];kernel_rfl) (.pointer (some ⟨sb,0,none⟩)) (fun K9 hK9=>by go_simp;exact hK9) ?_
  (try simp only[pq])
  refine zad (by rw[hO];kernel_rfl) (.bool true) (fun K9 hK9=>by go_simp;exact hK9) ?_
  (try simp only[pq])
  refine zad (by rw[hO];kernel_rfl) (.bool true) (fun K9 hK9=>by go_simp;exact hK9) ?_
  (try simp only[pq])
  refine zcq (by rw[hO];kernel_rfl) fun K9 hK9 => ?_
  go_simp
  go_at_call 20
  refine (zok W2 ((uh HT).kept0 (uh HK2).g)).mono ?_
  rintro e w9 ⟨rfl,g9⟩
  have G9:=tn (uh HK2).g g9
  refine hK9 _ _ ?_
  clear hK9 K9
  (try simp only[pq])
  refine zad (by rw[hO];kernel_rfl) (.bool true) (fun K9 hK9=>by go_simp;exact hK9) ?_
  (try simp only[pq])
  refine zad (by rw[hO];kernel_rfl) (.bool true) (fun K9 hK9=>by go_simp;exact hK9) ?_
  (try simp only[pq])
  go_wp2
  go_ret
  exact ⟨rfl,G9⟩
 have hmi:¬ (m:Int)=0:=by omega
 have hmj:((m:Int) == 0)=false:=by simp;omega
 obtain ⟨r,s,q,e1,e2,e3,hq⟩:=zr4 z m (by omega) (by omega)
 have hqI:q<IL.length:=by have:=uh HM;omega
 obtain ⟨ib,io,hia,hrow⟩:=((uh HK2).rows (.slice ia m ic,IL) (by simp)).at q hqI
 have lT:=uh HWI _ (List.getElem_mem hqI)
 obtain ⟨tip,htip⟩:∃ x,x=IL[q]:=⟨_,rfl⟩
 rw[← htip] at hrow lT
 obtain ⟨TB,hTB⟩:=kyb tip lT
 rw[← hTB.e] at hrow
 obtain ⟨W3,hW3,hB3,g3⟩:=zbb W2 33 Z TB
 have hBZ:Blk (W2.alloc (.cells Z 33)) W2.heap.size 33 Z.toList:=by simpa using Blk.new W2 33 Z.toList
 have hk3:=(uh HK2).none g3
 have clog:=zoh W3 (some ⟨sb,0,none⟩) S hk3.s.sat tip lT
 rw[hTB.key] at clog
 have hr3:=zak hB3
 obtain ⟨HTB,HROW,HW3,HBZ,HK3,HB3⟩:=zh6 hTB hrow hW3 hBZ hk3 hB3
 clear htip hTB hrow hW3 hBZ g3 hk3 hqI hB3
 subst hia
 go_wp2_with (first
  | (refine wpList_store_row rfl 28 _ _ rfl w1.heap.size _ rfl rfl _ _ (uh HB2) za3 rfl (zcd _ _ _ _ _ _) ?_;rw[← uh HW2])
  | (refine wpList_load_mid rfl 33 _ rfl ib (io+q*32) rfl TB _ (uh HROW) Tryz.underlying33 rfl (uh HTB).info ?_)
  | (have hBB:=uh HBZ;refine wpList_store_row rfl 33 _ _ rfl W2.heap.size TB.toArray rfl rfl _ _ hBB (uh HTB).info2 ((uh HTB).zed (uh HZ)) (uh HTB).one ?_;clear hBB;rw[← uh HW3])
  | (refine wpList_load_mid rfl 33 _ rfl W2.heap.size 0 rfl TB _ hr3 Tryz.underlying33 rfl (uh HTB).info ?_))
 refine clog.mono ?_
 rintro e w5 ⟨v5,T,rfl,hlog,ho5,g5⟩
 clear clog hr3
 have hN5:Nam w5 w.heap.size v5 T:=⟨za7 ho5 (uh HK3).g.size,zv5 (uh HSS) hlog⟩
 obtain ⟨la,lc,rfl,-,-⟩:=hN5.open
 have hk5:=((uh HK3).none g5).add hN5
 obtain ⟨tn9,htn⟩:∃ t,t=T.length:=⟨_,rfl⟩
 rw[← htn] at hk5 ⊢
 have hT24:tn9≤24:=by
  rw[htn]
  rcases hlog with ⟨-,rfl⟩ | ⟨h,-⟩
  ·simp
  ·exact Nat.le_trans (zbl h.nodup (fun x hx=>zog (h.com x hx))) (by simpa[idsS] using hS24)
 have hLP:∀ j (h:j<T.length),LogP S tip T:=fun j h=>by
  rcases hlog with ⟨-,rfl⟩ | ⟨h,-⟩
  ·cases h
  ·exact h
 obtain ⟨mp,hmp⟩:∃ p,p=w5.heap.size:=⟨_,rfl⟩
 obtain ⟨W6,hW6⟩:∃ W,W=w5.alloc (.map #[] 0):=⟨_,rfl⟩
 have g6:w5.grownBy W6 none:=by rw[hW6];exact zag (zaa _ _) _
 have hmk:=MapAt.fresh w5
 have hM6:MapAt W6 mp (metB (T.take 0)):=by rw[hW6,hmp];exact MapAt.new w5
 rw[← hW6,← hmp] at hmk
 have hmb:mp≠mb:=by have:=hk5.s.lt;omega
 have hmw:w.heap.size≤mp:=by rw[hmp];exact hk5.g.size
 obtain ⟨HMB,HMW⟩:=zh2 hmb hmw
 have HK6:=hide (hk5.none g6)
 have HB6:=hide (((uh HB3).kept g5 (by simp)).kept g6 (by simp))
 obtain ⟨HM6,HLP,HTN⟩:=zh3 hM6 hLP htn
 clear hlog ho5 g5 hN5 hk5 hmp hW6 g6 hM6 hmb hmw hLP htn HK3 HB3 HK2 HW2 HB2 HW3 HBZ HROW
 go_wp2_with fail
 go_loopw [11,12,13,14,15,16,17,18,19,20] (fun i _a _b _c _d _e _f _g _h _k wr=>∃ j:Nat,i = .int .i64 j∧j≤tn9∧Gk w wr sb mb w1.heap.size (.slice a1 n1 c1) (.slice a2 n2 c2) S [(.slice la tn9 lc,T),(.slice (some ⟨ib,io,none⟩) m ic,IL)]∧MapAt wr mp (metB (T.take j))∧Blk wr W2.heap.size 33 TB) (fun i _ _ _ _ _ _ _ _ _ _=>tn9 - (intOf i).toNat)
 case atStart=>exact ⟨0,rfl,Nat.zero_le _,uh HK6,uh HM6,uh HB6⟩
 case round =>
  clear HK6 HM6 HB6 hmk
  obtain ⟨j,rfl,hj,hk,hM,hB⟩:=hrel
  obtain ⟨HK,HMP,HB⟩:=zh3 hk hM hB
  clear hk hM hB
  by_cases hlt:j<tn9
  ·have hjT:j<T.length:=by rw[← uh HTN];exact hlt
   have hji:(j:Int)<(tn9:Int):=by omega
   have hP:=uh HLP j hjT
   obtain ⟨lb,lo,hla,hrow⟩:=((uh HK).rows (.slice la tn9 lc,T) (by simp)).at j hjT
   have hx32:=((uh HK).rows (.slice la tn9 lc,T) (by simp)).wid _ (List.getElem_mem hjT)
   have hpx:=hP.rch _ (List.getElem_mem hjT)
   obtain ⟨o,hlk,hok3⟩:=zkp (hP.com _ (List.getElem_mem hjT))
   have hnot:T[j]∉T.take j:=fun hh=>by
    have hnd:=hP.nodup
    have hnd2:(T.take (j+1)).Nodup:=hnd.sublist (List.take_sublist _ _)
    rw[List.take_succ_eq_append_getElem hjT] at hnd2
    exact (List.nodup_append.1 hnd2).2.2 _ hh _ (by simp) rfl
   have htk:=List.take_succ_eq_append_getElem hjT
   obtain ⟨x,hx⟩:∃ x,x=T[j]:=⟨_,rfl⟩
   rw[← hx] at hrow hx32 hpx hlk hnot htk
   obtain ⟨XB,hXB⟩:=kyb x hx32
   rw[← hXB.e] at hrow
   have cget:=zst w wr sb mb S (uh HK).s x hx32 o hlk
   rw[hXB.key,hok3] at cget
   obtain ⟨HXB,HX32,HROW,HPX,HNOT,HTK⟩:=zh6 hXB hx32 hrow hpx hnot htk
   have HXE:Hid (∀ h:j<T.length,x=T[j]):=fun _=>hx
   have hjw:IntKind.i64.wrap ((j:Int)+1)=(j:Int)+1:=by rw[IntKind.wrap_i64];omega
   clear hjT hP hx hXB hx32 hrow hpx hnot htk hlk hok3
   subst hla
   go_upto_region 11 with (first
    | (refine wpList_load_mid rfl 33 _ rfl lb (lo+j*32) rfl XB _ (uh HROW) Tryz.underlying33 rfl (uh HXB).info ?_)
    | (go_at_call 14;refine cget.mono ?_;rintro e w13 ⟨v13,rfl,hn13,g13⟩;clear cget;obtain ⟨da,dc,rfl,-⟩:=hn13.dat;obtain ⟨dl,hdl⟩:∃ n,n=o.d.length:=⟨_,rfl⟩;rw[← hdl];obtain ⟨W14,hW14,hB14,g14⟩:=zbb w13 42 #[.int .i64 0,.slice none 0 0] [.int .i64 3,.slice da dl dc];have HK14:=hide (((uh HK).none g13).none g14);have HM14:=hide ((uh HMP).none (tn g13 g14));have HB14:=hide ((uh HB).kept (tn g13 g14) (by simp));have HRX14:=hide (zae (uh HROW) (tn g13 g14) (by simp));have HW14:=hide hW14;have HC0:Hid (W14.cell? ⟨w13.heap.size,0,none⟩=some (.int .i64 3)):=hB14.cell 0;clear hn13 g13 g14 hW14 hB14 hdl)
    | (refine wpList_store_row rfl 42 _ _ rfl w13.heap.size _ rfl rfl _ _ (Blk.new w13 42 [.int .i64 0,.slice none 0 0]) zaq rfl (zb4 rfl) ?_;rw[← uh HW14]))
   have h0:W14.grownBy W14.drew none:=zaj (zaa _ _)
   have HLK:Hid (∀ V,W14.grownBy V none→(Instr.lookup 67 (.map (some mp)) (.agg XB.toArray) false).run Tryz.prog V = .ok (.bool false) V):=fun V hV=>by
    have:=((uh HM14).none hV).unmet x (uh HX32) (uh HNOT)
    rw[(uh HXB).key] at this
    exact this
   have HRT14:=hide (zak (uh HB14))
   have HFtx:=hide (zqj (uh HK14) (uh HTB) (uh HXB) lT (uh HX32))
   go_cut [95] (fun v wx=>v = .bool false∧W14.grownBy wx none)
   case first =>
    refine wp_region_noPanic ?_
    refine wp_region_held_drew (S:=fun V=>W14.grownBy V none) (by kernel_rfl) h0 (fun _ => ?_)
    refine tq 0 71 (.move (.tmp 13)) ((.int .i64 (0))) h0 ?_
    refine tq 1 72 (.binOp .neq 38 (.tmp 71) (.const (.int .i64 0)) 38) ((.bool false)) h0 ?_
    refine tq 2 73 (.move (.tmp 72)) ((.bool false)) h0 ?_
    refine tq 3 74 (.fieldAddr 42 (.tmp 12) 0) ((.pointer (some ⟨w13.heap.size,0,none⟩))) h0 ?_
    (try simp only[pq])
    refine tz 4 75 (.load 3 (.tmp 74)) (.int .i64 3) h0 ?_ (y:=(Or.inl ⟨by rfl,fun V hV=>by (have hv1:=hV.cell (uh HC0) (by simp);go_simp)⟩))
    refine tq 5 76 (.binOp .neq 3 (.tmp 75) (.const (.int .i64 3)) 3) ((.bool false)) h0 ?_
    refine tq 6 77 (.pick (.tmp 73) (.const (.bool true)) (.tmp 76)) ((.bool false)) h0 ?_
    refine tq 7 78 (.move (.tmp 77)) ((.bool false)) h0 ?_
    (try simp only[pq])
    refine tq 8 79 (.move (.tmp 10)) ((.map (some mp))) h0 ?_
    refine tq 9 80 (.move (.tmp 9)) ((.slice (some ⟨lb,lo,none⟩) tn9 lc)) h0 ?_
    refine tq 10 81 (.move (.tmp 11)) ((.int .i64 ((j:Int)))) h0 ?_
    refine tq 11 82 (.indexAddr 29 (.tmp 80) (.tmp 81)) ((.pointer (some ⟨lb,lo+j*32,none⟩))) h0 ?_
    (try simp only[pq])
    refine tz 12 83 (.load 33 (.tmp 82)) (.agg XB.toArray) h0 ?_ (y:=(yieldsIf_load_mid (by rfl) _ _ rfl _ _ rfl XB _ (fun V hV=>zae (uh HRX14) hV (by simp)) Tryz.underlying33 rfl (uh HXB).info))
    refine tz 13 84 (.lookup 67 (.tmp 79) (.tmp 83) false) (.bool false) h0 ?_ (y:=(Or.inl ⟨by rfl,fun V hV=>by (have z9:=uh HLK V hV;go_simp)⟩))
    refine tq 14 85 (.pick (.tmp 78) (.const (.bool true)) (.tmp 84)) ((.bool false)) h0 ?_
    refine tq 15 86 (.move (.tmp 85)) ((.bool false)) h0 ?_
    (try simp only[pq])
    refine tq 16 87 (.move (.tmp 5)) ((.pointer (some ⟨sb,0,none⟩))) h0 ?_
    refine tz 17 88 (.load 33 (.tmp 8)) (.agg TB.toArray) h0 ?_ (y:=(yieldsIf_load_mid (by rfl) _ _ rfl _ _ rfl TB _ (fun V hV=>zae (uh HRT14) hV (by simp)) Tryz.underlying33 rfl (uh HTB).info))
    refine tq 18 89 (.move (.tmp 9)) ((.slice (some ⟨lb,lo,none⟩) tn9 lc)) h0 ?_
    refine tq 19 90 (.move (.tmp 11)) ((.int .i64 ((j:Int)))) h0 ?_
    (try simp only[pq])
    refine tq 20 91 (.indexAddr 29 (.tmp 89) (.tmp 90)) ((.pointer (some ⟨lb,lo+j*32,none⟩))) h0 ?_
    refine tz 21 92 (.load 33 (.tmp 91)) (.agg XB.toArray) h0 ?_ (y:=(yieldsIf_load_mid (by rfl) _ _ rfl _ _ rfl XB _ (fun V hV=>zae (uh HRX14) hV (by simp)) Tryz.underlying33 rfl (uh HXB).info))
    (try simp only[pq])
    refine rd 22 (some 93) (.call { callee := .value (.func 26),args := #[(.tmp 87),(.tmp 88),(.tmp 92)],argTypes := #[24,33,33] }) (fun K9 hK9 => ?_)
    go_simp
    go_at_call 26
    refine (uh HFtx _ h0).mono ?_
    rintro e q1 ⟨y1,rfl,hy1,g1⟩
    obtain rfl:y1=true:=hy1.2 (uh HPX)
    have h1:=tn h0 g1
    clear hy1 g1
    go_wp2_with fail
    refine hK9.out _ _ h1 (fun _ => ?_)
    clear hK9 K9
    refine tq 23 94 (.unOp .not 4 (.tmp 93)) ((.bool false)) h1 ?_
    refine tq 24 95 (.pick (.tmp 86) (.const (.bool true)) (.tmp 94)) ((.bool false)) h1 ?_
    (try simp only[pq])
    refine wpAnyH_done (by kernel_rfl) ?_ _
    refine NoPanic.normal ?_
    go_wp2_with fail
    go_meet
    case rel=>exact ⟨rfl,h1⟩
   case rest =>
    obtain ⟨rfl,hgx⟩:=hcut
    have hkc:=(uh HK14).none hgx
    have hMc:=(uh HM14).none hgx
    have hBc:=(uh HB14).kept hgx (by simp)
    obtain ⟨W7,hmu,hM7,g7⟩:=hMc.metnow x (uh HX32) (uh HNOT)
    rw[(uh HXB).key] at hmu
    rw[← uh HTK] at hM7
    have hk7:=hkc.other hMc (uh HMB) (uh HMW) g7
    have hB7:=hBc.kept g7 (fun e=>hMc.blk hBc (by injection e with e;exact e.symm))
    have HRXc:=hide (zae (uh HRX14) hgx (by simp))
    obtain ⟨HK7,HM7,HB7⟩:=zh3 hk7 hM7 hB7
    clear hgx hkc hMc hBc g7 hk7 hM7 hB7 HK14 HM14 HB14 HRX14 HRT14 HFtx HLK HC0 HW14 h0
    by_cases hj0:j=0
    ·have hj0i:(j:Int)=0:=by omega
     have hfin:j+1≤tn9:=by omega
     subst hj0
     go_wp2_with (refine wpList_load_mid rfl 33 _ rfl lb (lo+0*32) rfl XB _ (uh HRXc) Tryz.underlying33 rfl (uh HXB).info ?_)
     go_roundw
     case rel=>exact ⟨1,by go_num,hfin,uh HK7,uh HM7,uh HB7⟩
     case measure=>simp[intOf];omega
    ·have hj0i:¬ (j:Int)=0:=by omega
     have hj0j:((j:Int) == 0)=false:=by simp;omega
     go_wp2_with (refine wpList_load_mid rfl 33 _ rfl lb (lo+j*32) rfl XB _ (uh HRXc) Tryz.underlying33 rfl (uh HXB).info ?_)
     go_loopw [14,15,16,17,18,19,20] (fun ch kk _a _b _c _d _e wr=>∃ (y:Bool) (k:Nat),ch = .bool y∧kk = .int .i64 k∧k≤j∧(y=true↔∃ q,q<k∧x∈prS S (T.getD q []))∧Gk w wr sb mb w1.heap.size (.slice a1 n1 c1) (.slice a2 n2 c2) S [(.slice (some ⟨lb,lo,none⟩) tn9 lc,T),(.slice (some ⟨ib,io,none⟩) m ic,IL)]∧MapAt wr mp (metB (T.take (j+1)))∧Blk wr W2.heap.size 33 TB) (fun _ kk _ _ _ _ _ _=>j - (intOf kk).toNat)
     case atStart=>exact ⟨false,0,rfl,rfl,Nat.zero_le _,by simp,uh HK7,uh HM7,uh HB7⟩
     case round =>
      clear HK7 HM7 HB7 hmu
      obtain ⟨y,k,rfl,rfl,hkj,hy,hk,hM,hB⟩:=hrel
      obtain ⟨HKk,HMk,HBk⟩:=zh3 hk hM hB
      clear hk hM hB
      by_cases hlk:k<j
      ·have hkT:k<T.length:=by rw[← uh HTN];omega
       have hjT:j<T.length:=by rw[← uh HTN];exact hlt
       have hki:(k:Int)<(j:Int):=by omega
       have hkt:(k:Int)<(tn9:Int):=by omega
       have hkw:IntKind.i64.wrap ((k:Int)+1)=(k:Int)+1:=by rw[IntKind.wrap_i64];omega
       obtain ⟨lb2,lo2,hl2,hrowk⟩:=((uh HKk).rows (.slice (some ⟨lb,lo,none⟩) tn9 lc,T) (by simp)).at k hkT
       obtain ⟨lb3,lo3,hl3,hrowj⟩:=((uh HKk).rows (.slice (some ⟨lb,lo,none⟩) tn9 lc,T) (by simp)).at j hjT
       have e2:lb2=lb∧lo2=lo:=by injection hl2 with h;injection h with h1 h2;exact ⟨h1.symm,h2.symm⟩
       have e3:lb3=lb∧lo3=lo:=by injection hl3 with h;injection h with h1 h2;exact ⟨h1.symm,h2.symm⟩
       rw[e2.1,e2.2] at hrowk
       rw[e3.1,e3.2,← uh HXE hjT,← (uh HXB).e] at hrowj
       have hz32:=((uh HKk).rows (.slice (some ⟨lb,lo,none⟩) tn9 lc,T) (by simp)).wid _ (List.getElem_mem hkT)
       have hgd:T.getD k []=T[k]:=by simp[List.getD,hkT]
       obtain ⟨o2,hlk2,hok2⟩:=zkp ((uh HLP j hjT).com _ (List.getElem_mem hkT))
       obtain ⟨z2,hz2⟩:∃ z,z=T[k]:=⟨_,rfl⟩
       rw[← hz2] at hrowk hz32 hgd hlk2
       obtain ⟨ZB,hZB⟩:=kyb z2 hz32
       rw[← hZB.e] at hrowk
       have cget:=zst w wr sb mb S (uh HKk).s z2 hz32 o2 hlk2
       rw[hZB.key,hok2] at cget
       have hat:AtS S z2 3 o2.d:=Or.inl ⟨o2,hlk2,hok2,rfl⟩
       obtain ⟨P,hP⟩:∃ P,P=prS S z2:=⟨_,rfl⟩
       obtain ⟨PRE,hPRE⟩:∃ p:Prop,p=(∃ q,q<k∧x∈prS S (T.getD q [])):=⟨_,rfl⟩
       rw[← hPRE] at hy
       have hout:(∃ q,q<k+1∧x∈prS S (T.getD q []))↔PRE∨x∈P:=by
        rw[hPRE,hP,← hgd]
        constructor
        ·rintro ⟨q,h1,h2⟩
         rcases Nat.lt_or_ge q k with h3 | h3
         ·exact Or.inl ⟨q,h3,h2⟩
         ·have:q=k:=by omega
          subst this
          exact Or.inr h2
        ·rintro (⟨q,h1,h2⟩ | h2)
         ·exact ⟨q,by omega,h2⟩
         ·exact ⟨k,by omega,h2⟩
       have HOUT:=hide hout
       have hsm:=hat.small (uh HSS)
       have hpars:=hat.pars
       rw[← hP] at hpars
       have hPw:∀ u∈P,u.length=32:=fun u hu=>zx0 (hP ▸ hu)
       obtain ⟨HPW,HPARS,HZB,HROWk,HROWj,HY⟩:=zh6 hPw hpars hZB hrowk hrowj hy
       clear hkT hjT hl2 hl3 e2 e3 hrowk hrowj hz32 hgd hz2 hlk2 hok2 hZB hat hP hPRE hy hout hpars hPw
       go_wp2_with (refine wpList_load_mid rfl 33 _ rfl lb (lo+k*32) rfl ZB _ (uh HROWk) Tryz.underlying33 rfl (uh HZB).info ?_)
       refine cget.mono ?_
       rintro e w23 ⟨v23,rfl,hn23,g23⟩
       clear cget
       obtain ⟨ea,ec,rfl,hD⟩:=hn23.dat
       obtain ⟨W24,hW24,hB24,g24⟩:=zbb w23 42 #[.int .i64 0,.slice none 0 0] [.int .i64 3,.slice ea o2.d.length ec]
       have cl:=zcw W24 3 ea ec o2.d (hD.none g24).bts (by omega)
       obtain ⟨dl2,hdl2⟩:∃ n,n=o2.d.length:=⟨_,rfl⟩
       rw[← hdl2] at cl hW24 hB24 ⊢
       have hr24:=zak hB24
       have HW24:=hide hW24
       have HK24:=hide (((uh HKk).none g23).none g24)
       have HM24:=hide ((uh HMk).none (tn g23 g24))
       have HB24:=hide ((uh HBk).kept (tn g23 g24) (by simp))
       have HRX24:=hide (zae (uh HROWj) (tn g23 g24) (by simp))
       clear hn23 hD g23 g24 hW24 hB24 hdl2 hsm HKk HMk HBk HROWj HROWk
       go_wp2_with (first
        | (refine wpList_store_row rfl 42 _ _ rfl w23.heap.size _ rfl rfl _ _ (Blk.new w23 42 [.int .i64 0,.slice none 0 0]) zaq rfl (zb4 rfl) ?_;rw[← uh HW24])
        | (refine wpList_load_mid rfl 42 _ rfl w23.heap.size 0 rfl [.int .i64 3,.slice ea dl2 ec] _ hr24 Tryz.underlying42 rfl zaq ?_))
       refine cl.mono ?_
       rintro e w33 ⟨po3,pc3,y3,rfl,-,ho,g33⟩
       clear cl hr24
       obtain ⟨C,hC⟩:∃ C,C=chC (telC 3 o2.d).2 po3 pc3:=⟨_,rfl⟩
       have htl:(telC 3 o2.d).2.tree.length=32:=by
        unfold telC
        split
        ·split
         ·exact (zc8 o2.d).1
         ·rfl
        ·rfl
       have hCl:C.length=36:=by rw[hC];exact zdp _ _ _ htl
       have hCo:C.toArray.all (·.oneCell')=true:=by rw[hC];exact all_oneCell_toArray (zd2 _ _ _)
       have hc32:C[32]? = some (.slice po3 (telC 3 o2.d).2.pars.length pc3):=by rw[hC];exact (zep _ _ _ htl).1
       rw[uh HPARS] at ho hc32
       rw[← hC]
       obtain ⟨ZC,hZC,zvC⟩:=zhj
       obtain ⟨W34,hW34,hB34,g34⟩:=zbb w33 70 ZC C
       have hBZ:Blk (w33.alloc (.cells ZC 70)) w33.heap.size 70 ZC.toList:=by simpa using Blk.new w33 70 ZC.toList
       obtain ⟨pn,hpn⟩:∃ n,n=P.length:=⟨_,rfl⟩
       have hN34:Nam W34 W24.heap.size (.slice po3 P.length pc3) P:=(⟨ho,uh HPW⟩:Nam w33 W24.heap.size (.slice po3 P.length pc3) P).none g34
       rw[← hpn] at hc32 hN34
       have hp24:pn≤4:=by rw[hpn];exact zyx (uh HPARS)
       have hc4:W34.cell? ⟨w33.heap.size,32,none⟩=some (.slice po3 pn pc3):=by rw[hB34.cell];exact hc32
       have HI:=hide (show (Tryz.prog.info? 70).map (·.size)=some C.toArray.size by rw[show C.toArray.size=36 by simpa using hCl];exact zbq)
       have HZC:=hide (show ZC.toList.toArray.size=C.toArray.size by simp[hZC,hCl])
       obtain ⟨HCO,HBZ,HW34⟩:=zh3 hCo hBZ hW34
       have HK34:=hide (((uh HK24).none g33).none g34)
       have HM34:=hide ((uh HM24).none (tn g33 g34))
       have HB34:=hide ((uh HB24).kept (tn g33 g34) (by simp))
       have HRX34:=hide (zae (uh HRX24) (tn g33 g34) (by simp))
       obtain ⟨HN34,HC4,HPN⟩:=zh3 hN34 hc4 hpn
       clear ho hC htl hCl hCo hc32 hB34 hBZ hW34 hZC g33 g34 hN34 hc4 hpn HPARS HPW HK24 HM24 HB24 HRX24
       have h00:W34.grownBy W34 none:=zaa _ _
       go_wp2_with (first
        | (have hB9:=uh HBZ;refine wpList_store_row rfl 70 _ _ rfl w33.heap.size C.toArray rfl rfl _ _ hB9 (uh HI) (uh HZC) (uh HCO) ?_;clear hB9;rw[← uh HW34]))
       go_loopw [14,20] (fun ch jj wr=>∃ (y2:Bool) (i:Nat),ch = .bool y2∧jj = .int .i64 i∧i≤pn∧(y2=true↔PRE∨x∈P.take i)∧W34.grownBy wr none) (fun _ jj _=>pn - (intOf jj).toNat)
       case atStart=>exact ⟨y,0,rfl,rfl,Nat.zero_le _,by rw[uh HY];simp,h00⟩
       case round =>
        clear h00
        obtain ⟨y2,i,rfl,rfl,hip,hy,hg2⟩:=hrel
        by_cases hli:i<pn
        ·have hiP:i<P.length:=by rw[← uh HPN];exact hli
         obtain ⟨pb,pf,hpa,hrE⟩:=((uh HN34).none hg2).at i hiP
         have lE:=(uh HN34).wid _ (List.getElem_mem hiP)
         have hmt:(x∈P.take (i+1))↔x∈P.take i∨P[i]=x:=ztj hiP
         obtain ⟨E,hE⟩:∃ E,E=P[i]:=⟨_,rfl⟩
         rw[← hE] at hrE lE hmt
         obtain ⟨EB,hEB⟩:=kyb E lE
         rw[← hEB.e] at hrE
         have heq:=zyw hEB (uh HXB) lE (uh HX32)
         have hcr:=hg2.cell (uh HC4) (by simp)
         subst hpa
         obtain ⟨HRE,HEB,HMT⟩:=zh3 hrE hEB hmt
         have HRXk:=hide (zae (uh HRX34) hg2 (by simp))
         have HCR:=hide hcr
         have hii:(i:Int)<(pn:Int):=by omega
         have hiw:IntKind.i64.wrap ((i:Int)+1)=(i:Int)+1:=by rw[IntKind.wrap_i64];omega
         have h0:wr.grownBy wr.drew none:=zaj (zaa _ _)
         clear hiP hrE hE hEB hmt
         go_upto_region 24 with fail
         clear hcr
         cases y2 with
         | true =>
          have hy2:PRE∨x∈P.take (i+1):=by
           rcases hy.1 rfl with hh | hh
           ·exact Or.inl hh
           ·exact Or.inr ((uh HMT).2 (Or.inl hh))
          have HY2:=hide hy2
          clear hy hy2 heq
          refine wp_region_noPanic ?_
          refine wp_region_held_drew (S:=fun V=>wr.grownBy V none) (by kernel_rfl) h0 (fun _ => ?_)
          refine tq 0 129 (.move (.tmp 14)) ((.bool true)) h0 ?_
          refine tq 1 130 (.move (.tmp 129)) ((.bool true)) h0 ?_
          refine tz 2 131 (.fieldAddr 70 (.tmp 18) 1) undef h0 ?_ (y:=(Or.inr ⟨by rfl,rfl⟩))
          refine tz 3 132 (.load 29 (.tmp 131)) undef h0 ?_ (y:=(Or.inr ⟨by rfl,rfl⟩))
          (try simp only[pq])
          refine tz 4 133 (.move (.tmp 20)) undef h0 ?_ (y:=(Or.inr ⟨by rfl,rfl⟩))
          refine tz 5 134 (.indexAddr 29 (.tmp 132) (.tmp 133)) undef h0 ?_ (y:=(Or.inr ⟨by rfl,rfl⟩))
          refine tz 6 135 (.load 33 (.tmp 134)) undef h0 ?_ (y:=(Or.inr ⟨by rfl,rfl⟩))
          refine tz 7 136 (.move (.tmp 9)) undef h0 ?_ (y:=(Or.inr ⟨by rfl,rfl⟩))
          (try simp only[pq])
          refine tz 8 137 (.move (.tmp 11)) undef h0 ?_ (y:=(Or.inr ⟨by rfl,rfl⟩))
          refine tz 9 138 (.indexAddr 29 (.tmp 136) (.tmp 137)) undef h0 ?_ (y:=(Or.inr ⟨by rfl,rfl⟩))
          refine tz 10 139 (.load 33 (.tmp 138)) undef h0 ?_ (y:=(Or.inr ⟨by rfl,rfl⟩))
          refine tz 11 140 (.binOp .eql 33 (.tmp 135) (.tmp 139) 33) undef h0 ?_ (y:=(Or.inr ⟨by rfl,rfl⟩))
          (try simp only[pq])
          refine tq 12 141 (.pick (.tmp 130) (.const (.bool true)) (.tmp 140)) ((.bool true)) h0 ?_
          refine tq 13 14 (.assign (.tmp 141)) ((.bool true)) h0 ?_
          (try simp only[pq])
          refine wpAnyH_done (by kernel_rfl) ?_ _
          refine NoPanic.normal ?_
          go_wp2
          go_roundw
          case rel=>exact ⟨true,i+1,rfl,by go_num,by omega,⟨fun _=>uh HY2,fun _=>rfl⟩,tn hg2 h0⟩
          case measure=>simp[intOf];omega
         | false =>
          have hn:¬ (PRE∨x∈P.take i):=fun hh=>by have:=hy.2 hh;cases this
          by_cases hEb:E=x
          ·have HEQ:Hid (∀ W,(binOp .eql 33 (.agg EB.toArray) (.agg XB.toArray)).run Tryz.prog W = .ok (.bool true) W):=fun W=>by
            have:=heq W
            rw[hEb,beq_self_eq_true] at this
            exact this
           have hy2:PRE∨x∈P.take (i+1):=Or.inr ((uh HMT).2 (Or.inr hEb))
           have HY2:=hide hy2
           clear hy hy2 heq hn hEb
           refine wp_region_noPanic ?_
           refine wp_region_held_drew (S:=fun V=>wr.grownBy V none) (by kernel_rfl) h0 (fun _ => ?_)
           refine tq 0 129 (.move (.tmp 14)) ((.bool false)) h0 ?_
           refine tq 1 130 (.move (.tmp 129)) ((.bool false)) h0 ?_
           refine tq 2 131 (.fieldAddr 70 (.tmp 18) 1) ((.pointer (some ⟨w33.heap.size,32,none⟩))) h0 ?_
           refine tz 3 132 (.load 29 (.tmp 131)) (.slice (some ⟨pb,pf,none⟩) pn pc3) h0 ?_ (y:=(Or.inl ⟨by rfl,fun V hV=>by (have hv1:=hV.cell (uh HCR) (by simp);go_simp)⟩))
           (try simp only[pq])
           refine tq 4 133 (.move (.tmp 20)) ((.int .i64 ((i:Int)))) h0 ?_
           refine tq 5 134 (.indexAddr 29 (.tmp 132) (.tmp 133)) ((.pointer (some ⟨pb,pf+i*32,none⟩))) h0 ?_
           refine tz 6 135 (.load 33 (.tmp 134)) (.agg EB.toArray) h0 ?_ (y:=(yieldsIf_load_mid (by rfl) _ _ rfl _ _ rfl EB _ (fun V hV=>zae (uh HRE) hV (by simp)) Tryz.underlying33 rfl (uh HEB).info))
           refine tq 7 136 (.move (.tmp 9)) ((.slice (some ⟨lb,lo,none⟩) tn9 lc)) h0 ?_
           (try simp only[pq])
           refine tq 8 137 (.move (.tmp 11)) ((.int .i64 ((j:Int)))) h0 ?_
           refine tq 9 138 (.indexAddr 29 (.tmp 136) (.tmp 137)) ((.pointer (some ⟨lb,lo+j*32,none⟩))) h0 ?_
           refine tz 10 139 (.load 33 (.tmp 138)) (.agg XB.toArray) h0 ?_ (y:=(yieldsIf_load_mid (by rfl) _ _ rfl _ _ rfl XB _ (fun V hV=>zae (uh HRXk) hV (by simp)) Tryz.underlying33 rfl (uh HXB).info))
           refine tz 11 140 (.binOp .eql 33 (.tmp 135) (.tmp 139) 33) (.bool true) h0 ?_ (y:=(zcy (by rfl) _ _ _ _ rfl _ _ _ rfl rfl zdi (uh HEQ)))
           (try simp only[pq])
           refine tq 12 141 (.pick (.tmp 130) (.const (.bool true)) (.tmp 140)) ((.bool true)) h0 ?_
           refine tq 13 14 (.assign (.tmp 141)) ((.bool true)) h0 ?_
           (try simp only[pq])
           refine wpAnyH_done (by kernel_rfl) ?_ _
           refine NoPanic.normal ?_
           go_wp2
           go_roundw
           case rel=>exact ⟨true,i+1,rfl,by go_num,by omega,⟨fun _=>uh HY2,fun _=>rfl⟩,tn hg2 h0⟩
           case measure=>simp[intOf];omega
          ·have HEQ:Hid (∀ W,(binOp .eql 33 (.agg EB.toArray) (.agg XB.toArray)).run Tryz.prog W = .ok (.bool false) W):=fun W=>by
            have:=heq W
            rw[show (E == x)=false from by simpa using hEb] at this
            exact this
           have hy2:¬ (PRE∨x∈P.take (i+1)):=fun hh=>by
            rcases hh with hh | hh
            ·exact hn (Or.inl hh)
            ·rcases (uh HMT).1 hh with hh | hh
             ·exact hn (Or.inr hh)
             ·exact hEb hh
           have HY2:=hide hy2
           clear hy hy2 heq hn hEb
           refine wp_region_noPanic ?_
           refine wp_region_held_drew (S:=fun V=>wr.grownBy V none) (by kernel_rfl) h0 (fun _ => ?_)
           refine tq 0 129 (.move (.tmp 14)) ((.bool false)) h0 ?_
           refine tq 1 130 (.move (.tmp 129)) ((.bool false)) h0 ?_
           refine tq 2 131 (.fieldAddr 70 (.tmp 18) 1) ((.pointer (some ⟨w33.heap.size,32,none⟩))) h0 ?_
           refine tz 3 132 (.load 29 (.tmp 131)) (.slice (some ⟨pb,pf,none⟩) pn pc3) h0 ?_ (y:=(Or.inl ⟨by rfl,fun V hV=>by (have hv1:=hV.cell (uh HCR) (by simp);go_simp)⟩))
           (try simp only[pq])
           refine tq 4 133 (.move (.tmp 20)) ((.int .i64 ((i:Int)))) h0 ?_
           refine tq 5 134 (.indexAddr 29 (.tmp 132) (.tmp 133)) ((.pointer (some ⟨pb,pf+i*32,none⟩))) h0 ?_
           refine tz 6 135 (.load 33 (.tmp 134)) (.agg EB.toArray) h0 ?_ (y:=(yieldsIf_load_mid (by rfl) _ _ rfl _ _ rfl EB _ (fun V hV=>zae (uh HRE) hV (by simp)) Tryz.underlying33 rfl (uh HEB).info))
           refine tq 7 136 (.move (.tmp 9)) ((.slice (some ⟨lb,lo,none⟩) tn9 lc)) h0 ?_
           (try simp only[pq])
           refine tq 8 137 (.move (.tmp 11)) ((.int .i64 ((j:Int)))) h0 ?_
           refine tq 9 138 (.indexAddr 29 (.tmp 136) (.tmp 137)) ((.pointer (some ⟨lb,lo+j*32,none⟩))) h0 ?_
           refine tz 10 139 (.load 33 (.tmp 138)) (.agg XB.toArray) h0 ?_ (y:=(yieldsIf_load_mid (by rfl) _ _ rfl _ _ rfl XB _ (fun V hV=>zae (uh HRXk) hV (by simp)) Tryz.underlying33 rfl (uh HXB).info))
           refine tz 11 140 (.binOp .eql 33 (.tmp 135) (.tmp 139) 33) (.bool false) h0 ?_ (y:=(zcy (by rfl) _ _ _ _ rfl _ _ _ rfl rfl zdi (uh HEQ)))
           (try simp only[pq])
           refine tq 12 141 (.pick (.tmp 130) (.const (.bool true)) (.tmp 140)) ((.bool false)) h0 ?_
           refine tq 13 14 (.assign (.tmp 141)) ((.bool false)) h0 ?_
           (try simp only[pq])
           refine wpAnyH_done (by kernel_rfl) ?_ _
           refine NoPanic.normal ?_
           go_wp2
           go_roundw
           case rel=>exact ⟨false,i+1,rfl,by go_num,by omega,⟨fun h=>(by cases h),fun h=>absurd h (uh HY2)⟩,tn hg2 h0⟩
           case measure=>simp[intOf];omega
        ·have hie:i=pn:=by omega
         have hii:¬ (i:Int)<(pn:Int):=by omega
         have hcr:=hg2.cell (uh HC4) (by simp)
         have hyo:y2=true↔∃ q,q<k+1∧x∈prS S (T.getD q []):=by
          rw[uh HOUT,hy,hie,uh HPN,List.take_length]
         have HYO:=hide hyo
         clear hy hie hyo
         go_wp2
         go_roundw
         case rel=>exact ⟨y2,k+1,rfl,by go_num,by omega,uh HYO,(uh HK34).none hg2,(uh HM34).none hg2,(uh HB34).kept hg2 (by simp)⟩
         case measure=>simp[intOf];omega
      ·have hkji:¬ (k:Int)<(j:Int):=by omega
       have hkej:k=j:=by omega
       have hyt:y=true:=hy.2 (by
        have hjT:j<T.length:=by rw[← uh HTN];exact hlt
        obtain ⟨q,h1,h2⟩:=(uh HLP j hjT).child j hjT (by omega)
        exact ⟨q,by omega,by rw[uh HXE hjT];exact h2⟩)
       subst hyt
       clear hy hkej
       go_wp2
       go_roundw
       case rel=>exact ⟨j+1,by go_num,by omega,uh HKk,uh HMk,uh HBk⟩
       case measure=>simp[intOf];omega
  ·have hji:¬ (j:Int)<(tn9:Int):=by omega
   go_wp2_with fail
   refine (zok _ ((uh HT).kept0 (uh HK).g)).mono ?_
   rintro e w9 ⟨rfl,g9⟩
   go_wp2
   go_ret
   exact ⟨rfl,tn (uh HK).g g9⟩
end Go.Proofs.YthhnfloohbdaiaaGreatDoor
