/- Lemmas. -/
import Derived.Laws.IdiomStrings
import Derived.Test.YtoilcpdhhlcidaaGreatDoorSpW
import Derived.Test.YtoilcpdhhlcidaaGreatDoorMMsk
import Derived.Deep.MidRow
namespace Go.Proofs.YtoilcpdhhlcidaaGreatDoor
open Go.RowKit
set_option maxRecDepth 100000
theorem zi1 (w:World) (l:List UInt8) (hl:l.length≤maxLen):∃ cap W1,(convert 9 53 (.string (str l))).run Tryz.prog w = .ok (.slice (some ⟨w.heap.size,0,none⟩) l.length cap) W1∧Bts W1 (some ⟨w.heap.size,0,none⟩) cap l∧w.grownBy W1 none:=by
 have h:=run_bytes_of_string (P:=Tryz.prog) w 9 53 5 (str l) Tryz.underlying9 Tryz.underlying53 Tryz.underlying5
 rw[zaq] at h
 refine ⟨_,_,h,?_,zaf (zaa (zac _ _)) _⟩
 refine ⟨(fun e=>by cases e),grownCap_ge _ _ _ _,grownCap_le_maxLen _ _ _ _ hl,(fun ad e _=>by cases e;rfl),(fun ad e i hi => ?_)⟩
 cases e
 have hh:(w.drew.alloc (.cells (bytesRow (str l) (grownCap w l.length 0 5)) 5 ((bytesRow (str l) (grownCap w l.length 0 5)).size,(bytesRow (str l) (grownCap w l.length 0 5)).size+1))).heap[w.heap.size]? = some (.cells (bytesRow (str l) (grownCap w l.length 0 5)) 5 ((bytesRow (str l) (grownCap w l.length 0 5)).size,(bytesRow (str l) (grownCap w l.length 0 5)).size+1)):=heap_alloc_new w.drew _
 rw[show (⟨w.heap.size,0,none⟩:Addr).off+i=i from Nat.zero_add i,cell_of_row _ _ _ _ _ _ hh]
 unfold bytesRow
 rw[Array.getElem?_append_left (by simp[str];exact hi)]
 simp[str,hi]
theorem zek {P:Program} {w w' : World} {ops:Array Oper} {o:Oper} {a:Act} {K:Act→World→Prop} {Q:Exit→Act→World→Prop} {E:Prop} (hw:Region.wanted o (yielded ops a.tmps)=true) (t t' : TypeId) (x:Operand) (ho:o.op = .convert t t' x)
  (X s:Value) (hx:a.eval x=X) (hr:(convert t t' X).run P w = .ok s w') (h:K (a.put o.dst s) w'):if Region.wanted o (yielded ops a.tmps)=true then Oper.wp P o a w K Q else E:=by
 rw[if_pos hw]
 unfold Oper.wp execOp
 simp only[ho,hx,hr,Sem.run_bind,Result.andThen_ok]
 exact h
theorem zdj:(Tryz.prog.info? 55).map (·.size)=some 3:=by kernel_rfl
theorem zf8 (K:ByteArray) (bo:Option Addr) (n c:Nat) (g:Bool):∀ u∈([.string K,.slice bo n c,.bool g]:List Value),u.oneCell'=true:=by
 intro u hu
 simp only[List.mem_cons,List.not_mem_nil,or_false] at hu
 rcases hu with rfl | rfl | rfl <;> rfl
set_option maxHeartbeats 1000000 in
theorem zk2 (w:World) (K:ByteArray) (bo:Option Addr) (n c:Nat) (g:Bool) :
  Calls Tryz.prog 84 #[.agg #[.string K,.slice bo n c,.bool g]] w fun e w'=>e = .returned (if g then .slice none 0 0 else .slice bo n c)∧w.grownBy w' none:=by
 obtain ⟨W1,hW1,hB1,g1⟩:=zah w 55 [.string K,.slice bo n c,.bool g]
 have c1:=hB1.cell 1
 have c2:=hB1.cell 2
 simp only[List.getElem?_cons_zero,List.getElem?_cons_succ] at c1 c2
 have HW1:=hide (show W1=w.alloc (.cells #[.string K,.slice bo n c,.bool g] 55) from hW1)
 clear hW1 hB1
 cases g
 ·go_enter Tryz.func84,Tryz.ntmps84
  go_wp2_with (rw[← uh HW1])
  go_ret
  exact ⟨rfl,g1⟩
 ·go_enter Tryz.func84,Tryz.ntmps84
  go_wp2_with (rw[← uh HW1])
  go_ret
  exact ⟨rfl,g1⟩
set_option maxHeartbeats 4000000 in
theorem znl (w:World) (x:ChI) (hb:Bts w x.bo x.bc x.val) (hk:x.key.length≤100000) (hv:x.val.length≤70000) :
  Calls Tryz.prog 79 #[.agg (ciC x).toArray] w fun e w'=>∃ ao c,e = .returned (.slice ao (chB x.chg).length c)∧Bts w' ao c (chB x.chg)∧(∀ ad,ao=some ad→w.heap.size≤ad.block)∧w.grownBy w' none:=by
 obtain ⟨TK,hTK⟩:∃ T,T=str x.key:=⟨_,rfl⟩
 obtain ⟨nk,hnk⟩:∃ n,n=x.key.length:=⟨_,rfl⟩
 obtain ⟨nv,hnv⟩:∃ n,n=x.val.length:=⟨_,rfl⟩
 obtain ⟨gn,hgn⟩:∃ g,g=x.gone:=⟨_,rfl⟩
 obtain ⟨CC,hCC⟩:∃ C:List Value,C=[.string TK,.slice x.bo nv x.bc,.bool gn]:=⟨_,rfl⟩
 have e0:ciC x=[.string TK,.slice x.bo nv x.bc,.bool gn]:=by rw[hTK,hnv,hgn];rfl
 rw[e0]
 obtain ⟨W1,hW1,hB1,g1⟩:=zah w 55 [.string TK,.slice x.bo nv x.bc,.bool gn]
 have hcr:W1.rangeAt w.heap.size 0 CC:=by rw[hCC];exact zan hB1
 have c0:=hB1.cell 0
 have c2:=hB1.cell 2
 simp only[List.getElem?_cons_zero,List.getElem?_cons_succ] at c0 c2
 have HW1:=hide (show W1=w.alloc (.cells #[.string TK,.slice x.bo nv x.bc,.bool gn] 55) from hW1)
 have s1:W1.heap.size=w.heap.size+1:=by rw[hW1,World.size_alloc]
 have HCI:=hide (show (Tryz.prog.info? 55).map (·.size)=some CC.length by rw[hCC];exact zdj)
 have hck:∀ V,Calls Tryz.prog 84 #[.agg CC.toArray] V fun e w'=>e = .returned (if gn then .slice none 0 0 else .slice x.bo nv x.bc)∧V.grownBy w' none:=fun V=>by rw[hCC];exact zk2 V TK x.bo nv x.bc gn
 obtain ⟨HCK,HTK,HNK,HNV⟩:=zh4 hck hTK hnk hnv
 have HKM:=hide (show x.key.length≤maxLen by unfold maxLen;omega)
 have HXV:=hide (hb.kept g1 (fun _ e=>by cases e))
 have HLK:=hide (show ([0]:List UInt8).length+16+x.key.length≤70368744177664 by simp;omega)
 obtain ⟨W2,hW2,hB2,g2⟩:=zah W1 5 [.int .u8 0]
 have g02:=tn g1 g2
 cases gn
 case false =>
  have e1:chB x.chg=([0]++layS x.key)++layS x.val:=by
   unfold chB Chg.norm ChI.chg
   simp only[← hgn]
   rfl
  have HE:=hide e1
  have HLV:=hide (show ([0]++layS x.key).length+16+(x.val:List UInt8).length≤70368744177664 by simp[layS,zb6];omega)
  obtain ⟨pb,hpb⟩:∃ p,p=W1.heap.size:=⟨_,rfl⟩
  rw[← hpb] at hB2
  have HW2:=hide (show W2=W1.alloc (.cells #[.int .u8 0] 5) from hW2)
  have hB3:=hB2
  have g3:=g2
  have hW3:True:=trivial
  have HW3:=hide hW3
  have HPB:=hide (show Bts W2 (some ⟨pb,0,none⟩) 1 [0] from zcn (l:=[0]) (zan hB3) (by unfold maxLen;decide))
  have HC0:=hide (g3.cell c0 (by simp))
  have hc2:=g2.cell c2 (by simp)
  have HCR:=hide (zak hcr g3 (by simp))
  have HG:=hide (show W2.grownBy W2 none from zac _ _)
  have HGW:=hide (tn g1 g3)
  have HXV3:=hide ((uh HXV).kept g3 (fun _ e=>by cases e))
  have HPP:=hide hpb
  clear hW1 hB1 hcr c0 c2 hck hTK hnk hnv hgn hb hk hv e0 e1 hCC hW2 hB2 g02 g2 g1 s1 hpb hB3 g3 hW3 HXV
  go_enter Tryz.func79,Tryz.ntmps79
  go_upto_region 4 with (first
   | (rw[← uh HW1])
   | (rw[← uh HPP,← uh HW2]))
  refine wp_region_noPanic ?_
  refine wp_region_held_drew (S:=fun V=>W2.grownBy V none) (by kernel_rfl) (zaa (uh HG)) (fun _ => ?_)
  refine tq 0 9 (.move (.tmp 3)) (.slice (some ⟨pb,0,none⟩) 1 1) (zaa (uh HG)) ?_
  refine tq 1 10 (.fieldAddr 55 (.tmp 1) 0) (.pointer (some ⟨w.heap.size,0,none⟩)) (zaa (uh HG)) ?_
  refine tz 2 11 (.load 9 (.tmp 10)) (.string TK) (zaa (uh HG)) ?_ (y:=(Or.inl ⟨by rfl,fun V hV=>by (have hv1:=hV.cell (uh HC0) (by simp);go_simp)⟩))
  refine tz 5 14 (.load 55 (.tmp 1)) (.agg CC.toArray) (zaa (uh HG)) ?_ (y:=(yieldsIf_load_mid (by rfl) _ _ rfl _ _ rfl CC _ (fun V hV=>zak (uh HCR) hV (by simp)) Tryz.underlying55 rfl (uh HCI)))
  (try simp only[pq])
  refine rdq 3 (some 12) (.convert 9 53 (.tmp 11)) (fun K9 hK9 => ?_)
  obtain ⟨cp,Wc,hcv,hkb,gc⟩:=zi1 _ x.key (uh HKM)
  rw[← uh HTK,← uh HNK] at hcv
  refine zek (by rfl) 9 53 _ rfl (.string TK) _ rfl hcv ?_
  have HGC:=hide (tn (zaa (uh HG)) gc)
  have HKB:=hide hkb
  have HP3:=hide ((uh HPB).kept (tn (zaa (zac W2 none)) gc) (fun _ e=>by cases e))
  clear hcv hkb gc
  refine hK9.out _ _ (uh HGC) (fun _ => ?_)
  clear hK9 K9
  (try simp only[pq])
  refine rdq 4 (some 13) (.call { callee := .value (.func 99),args := #[(.tmp 9),(.tmp 12)],argTypes := #[53,53] }) (fun K9 hK9 => ?_)
  go_simp
  have cs:=zdt Wc _ _ _ _ _ _ (uh HP3) (uh HKB) (uh HLK)
  rw[show ([0]:List UInt8).length=1 from rfl,← uh HNK] at cs
  go_at_call 99
  refine cs.mono ?_
  rintro e w4 ⟨v4,rfl,⟨a4,c4,rfl,hb4,_⟩,g4⟩
  have HB4:=hide hb4
  have HG4:=hide (tn (uh HGC) g4)
  clear cs hb4 g4
  go_wp2_with fail
  refine hK9.out _ _ (uh HG4) (fun _ => ?_)
  clear hK9 K9
  (try simp only[pq])
  refine rdq 6 (some 15) (.call { callee := .value (.func 84),args := #[(.tmp 14)],argTypes := #[55] }) (fun K9 hK9 => ?_)
  go_simp
  go_at_call 84
  refine (uh HCK _).mono ?_
  rintro e w5 ⟨rfl,g5⟩
  have HG5:=hide (tn (uh HG4) g5)
  have HB5:=hide ((uh HB4).kept g5 (fun _ e=>by cases e))
  clear g5
  go_wp2_with fail
  refine hK9.out _ _ (uh HG5) (fun _ => ?_)
  clear hK9 K9
  (try simp only[pq])
  refine rdq 7 (some 16) (.call { callee := .value (.func 99),args := #[(.tmp 13),(.tmp 15)],argTypes := #[53,53] }) (fun K9 hK9 => ?_)
  go_simp
  have cs:=zdt _ _ _ _ _ _ _ (uh HB5) ((uh HXV3).kept (uh HG5) (fun _ e=>by cases e)) (uh HLV)
  rw[← uh HNV] at cs
  go_at_call 99
  refine cs.mono ?_
  rintro e w6 ⟨v6,rfl,⟨a6,c6,rfl,hb6,q6⟩,g6⟩
  have HB6:=hide hb6
  have HQ6:=hide (fun ad e=>Nat.le_trans (uh HG5).size (q6 ad e).1)
  have HG6:=hide (tn (uh HG5) g6)
  clear cs hb6 q6 g6
  obtain ⟨n6,hn6⟩:∃ n,n=(([0]++layS x.key)++layS x.val).length:=⟨_,rfl⟩
  rw[← hn6]
  have HN6:=hide hn6
  clear hn6
  go_wp2_with fail
  refine hK9.out _ _ (uh HG6) (fun _ => ?_)
  clear hK9 K9
  refine tq 8 2 (.assign (.tmp 16)) ((.slice a6 n6 c6)) (uh HG6) ?_
  (try simp only[pq])
  refine wpAnyH_done (by kernel_rfl) ?_ _
  refine NoPanic.normal ?_
  go_wp2
  go_ret
  refine ⟨a6,c6,?_,?_,fun ad e=>Nat.le_trans (uh HGW).size (uh HQ6 ad e),tn (uh HGW) (uh HG6)⟩
  ·rw[uh HE,uh HN6];rfl
  ·rw[uh HE];exact uh HB6
 case true =>
  have e1:chB x.chg=([1]++layS x.key)++layS []:=by
   unfold chB Chg.norm ChI.chg
   simp only[← hgn]
   rfl
  have HE:=hide e1
  have HLV:=hide (show ([1]++layS x.key).length+16+([]:List UInt8).length≤70368744177664 by simp[layS,zb6];omega)
  obtain ⟨pb,hpb⟩:∃ p,p=W1.heap.size:=⟨_,rfl⟩
  rw[← hpb] at hB2
  have HW2:=hide (show W2=W1.alloc (.cells #[.int .u8 0] 5) from hW2)
  have hpq:pb≠w.heap.size:=by omega
  obtain ⟨W3,hW3⟩:∃ W,W=W2.setCell ⟨pb,0,none⟩ (.int .u8 1):=⟨_,rfl⟩
  have hB3:Blk W3 pb 5 [.int .u8 1]:=by rw[hW3];exact hB2.set 0 _
  have g3:W1.grownBy W3 none:=by rw[hW3,hpb];exact zam g2 _ _ (Or.inl (Nat.le_refl _))
  have hcw:=hB2.cell 0
  have hcz:=hB2.fz 0
  have HW3:=hide hW3
  have HPB:=hide (show Bts W3 (some ⟨pb,0,none⟩) 1 [1] from zcn (l:=[1]) (zan hB3) (by unfold maxLen;decide))
  have HC0:=hide (g3.cell c0 (by simp))
  have hc2:=g2.cell c2 (by simp)
  have HCR:=hide (zak hcr g3 (by simp))
  have HG:=hide (show W3.grownBy W3 none from zac _ _)
  have HGW:=hide (tn g1 g3)
  have HXV3:=hide ((uh HXV).kept g3 (fun _ e=>by cases e))
  have HPP:=hide hpb
  clear hW1 hB1 hcr c0 c2 hck hTK hnk hnv hgn hb hk hv e0 e1 hCC hW2 hB2 g02 g2 g1 s1 hpb hB3 g3 hW3 HXV
  go_enter Tryz.func79,Tryz.ntmps79
  go_upto_region 4 with (first
   | (rw[← uh HW1])
   | (rw[← uh HPP,← uh HW2])
   | (rw[← uh HW3]))
  refine wp_region_noPanic ?_
  refine wp_region_held_drew (S:=fun V=>W3.grownBy V none) (by kernel_rfl) (zaa (uh HG)) (fun _ => ?_)
  refine tq 0 9 (.move (.tmp 3)) (.slice (some ⟨pb,0,none⟩) 1 1) (zaa (uh HG)) ?_
  refine tq 1 10 (.fieldAddr 55 (.tmp 1) 0) (.pointer (some ⟨w.heap.size,0,none⟩)) (zaa (uh HG)) ?_
  refine tz 2 11 (.load 9 (.tmp 10)) (.string TK) (zaa (uh HG)) ?_ (y:=(Or.inl ⟨by rfl,fun V hV=>by (have hv1:=hV.cell (uh HC0) (by simp);go_simp)⟩))
  refine tz 5 14 (.load 55 (.tmp 1)) (.agg CC.toArray) (zaa (uh HG)) ?_ (y:=(yieldsIf_load_mid (by rfl) _ _ rfl _ _ rfl CC _ (fun V hV=>zak (uh HCR) hV (by simp)) Tryz.underlying55 rfl (uh HCI)))
  (try simp only[pq])
  refine rdq 3 (some 12) (.convert 9 53 (.tmp 11)) (fun K9 hK9 => ?_)
  obtain ⟨cp,Wc,hcv,hkb,gc⟩:=zi1 _ x.key (uh HKM)
  rw[← uh HTK,← uh HNK] at hcv
  refine zek (by rfl) 9 53 _ rfl (.string TK) _ rfl hcv ?_
  have HGC:=hide (tn (zaa (uh HG)) gc)
  have HKB:=hide hkb
  have HP3:=hide ((uh HPB).kept (tn (zaa (zac W3 none)) gc) (fun _ e=>by cases e))
  clear hcv hkb gc
  refine hK9.out _ _ (uh HGC) (fun _ => ?_)
  clear hK9 K9
  (try simp only[pq])
  refine rdq 4 (some 13) (.call { callee := .value (.func 99),args := #[(.tmp 9),(.tmp 12)],argTypes := #[53,53] }) (fun K9 hK9 => ?_)
  go_simp
  have cs:=zdt Wc _ _ _ _ _ _ (uh HP3) (uh HKB) (uh HLK)
  rw[show ([1]:List UInt8).length=1 from rfl,← uh HNK] at cs
  go_at_call 99
  refine cs.mono ?_
  rintro e w4 ⟨v4,rfl,⟨a4,c4,rfl,hb4,_⟩,g4⟩
  have HB4:=hide hb4
  have HG4:=hide (tn (uh HGC) g4)
  clear cs hb4 g4
  go_wp2_with fail
  refine hK9.out _ _ (uh HG4) (fun _ => ?_)
  clear hK9 K9
  (try simp only[pq])
  refine rdq 6 (some 15) (.call { callee := .value (.func 84),args := #[(.tmp 14)],argTypes := #[55] }) (fun K9 hK9 => ?_)
  go_simp
  go_at_call 84
  refine (uh HCK _).mono ?_
  rintro e w5 ⟨rfl,g5⟩
  have HG5:=hide (tn (uh HG4) g5)
  have HB5:=hide ((uh HB4).kept g5 (fun _ e=>by cases e))
  clear g5
  go_wp2_with fail
  refine hK9.out _ _ (uh HG5) (fun _ => ?_)
  clear hK9 K9
  (try simp only[pq])
  refine rdq 7 (some 16) (.call { callee := .value (.func 99),args := #[(.tmp 13),(.tmp 15)],argTypes := #[53,53] }) (fun K9 hK9 => ?_)
  go_simp
  have cs:=zdt _ _ _ _ _ _ _ (uh HB5) (Bts.nil _) (uh HLV)
  rw[List.length_nil] at cs
  go_at_call 99
  refine cs.mono ?_
  rintro e w6 ⟨v6,rfl,⟨a6,c6,rfl,hb6,q6⟩,g6⟩
  have HB6:=hide hb6
  have HQ6:=hide (fun ad e=>Nat.le_trans (uh HG5).size (q6 ad e).1)
  have HG6:=hide (tn (uh HG5) g6)
  clear cs hb6 q6 g6
  obtain ⟨n6,hn6⟩:∃ n,n=(([1]++layS x.key)++layS []).length:=⟨_,rfl⟩
  rw[← hn6]
  have HN6:=hide hn6
  clear hn6
  go_wp2_with fail
  refine hK9.out _ _ (uh HG6) (fun _ => ?_)
  clear hK9 K9
  refine tq 8 2 (.assign (.tmp 16)) ((.slice a6 n6 c6)) (uh HG6) ?_
  (try simp only[pq])
  refine wpAnyH_done (by kernel_rfl) ?_ _
  refine NoPanic.normal ?_
  go_wp2
  go_ret
  refine ⟨a6,c6,?_,?_,fun ad e=>Nat.le_trans (uh HGW).size (uh HQ6 ad e),tn (uh HGW) (uh HG6)⟩
  ·rw[uh HE,uh HN6];rfl
  ·rw[uh HE];exact uh HB6
set_option maxHeartbeats 4000000 in
theorem zg1 (w:World) (ao:Option Addr) (ac:Nat) (L:List ChI) (h:CsI w ao ac L) (hmay:MayC (L.map ChI.chg)) :
  Calls Tryz.prog 62 #[.slice ao L.length ac] w fun e w'=>e = .returned (.int .u64 ((recB (L.map ChI.chg)).length:Int))∧w.grownBy w' none:=by
 have hN:=hmay.1
 rw[List.length_map] at hN
 have hrl:=zcy hmay
 obtain ⟨n,hn⟩:∃ n,n=L.length:=⟨_,rfl⟩
 rw[← hn] at hN ⊢
 obtain ⟨HN,H,HM⟩:=zh3 hn h hmay
 obtain ⟨R,hR⟩:∃ R,R=(recB (L.map ChI.chg)).length:=⟨_,rfl⟩
 rw[← hR] at hrl ⊢
 have hRw:IntKind.u64.wrap (R:Int)=(R:Int):=by rw[IntKind.wrap_u64];omega
 have HR:=hide hR
 clear hn h hmay hR hrl
 go_enter Tryz.func62,Tryz.ntmps62
 go_wp2
 go_loopw [3,8] (fun t i wr=>∃ (j m:Nat),i = .int .i64 j∧j≤n∧t = .int .i64 (m:Int)∧Hid (w.grownBy wr none)∧Hid (m=2+(((L.take j).map ChI.chg).flatMap chB).length)∧Hid (m≤2+j*65641)) (fun _ i _=>n - (intOf i).toNat)
 case atStart=>exact ⟨0,2,rfl,Nat.zero_le _,rfl,zac _ _,by simp[Hid],by simp[Hid]⟩
 case round =>
  obtain ⟨j,m,rfl,hj,rfl,HG,HM1,HM2⟩:=hrel
  by_cases hlt:j<n
  ·have hjl:j<L.length:=by rw[← uh HN];exact hlt
   obtain ⟨b,o,hao,hrow⟩:=(uh H).row.at j hjl
   obtain ⟨x,hx⟩:∃ x,x=L[j]:=⟨_,rfl⟩
   rw[← hx] at hrow
   obtain ⟨TK,hTK⟩:∃ T,T=str x.key:=⟨_,rfl⟩
   obtain ⟨nv,hnv⟩:∃ n,n=x.val.length:=⟨_,rfl⟩
   obtain ⟨gn,hgn⟩:∃ g,g=x.gone:=⟨_,rfl⟩
   have e0:ciC x=[.string TK,.slice x.bo nv x.bc,.bool gn]:=by rw[hTK,hnv,hgn];rfl
   rw[e0] at hrow
   have hr:=zak hrow (uh HG) (by simp)
   obtain ⟨EC,hEC⟩:∃ E:List Value,E=[.string TK,.slice x.bo nv x.bc,.bool gn]:=⟨_,rfl⟩
   obtain ⟨W3,hW3,hB3,g3⟩:=zbu wr 55 #[.string ⟨#[]⟩,.slice none 0 0,.bool false] EC
   have hc0:W3.cell? ⟨wr.heap.size,0,none⟩=some (.string TK):=by rw[hB3.cell 0,hEC];rfl
   have hc1:W3.cell? ⟨wr.heap.size,1,none⟩=some (.slice x.bo nv x.bc):=by rw[hB3.cell 1,hEC];rfl
   have hc2:W3.cell? ⟨wr.heap.size,2,none⟩=some (.bool gn):=by rw[hB3.cell 2,hEC];rfl
   rw[← hEC] at hr
   have hsK:TK.size=x.key.length:=by rw[hTK,zaq]
   have HIE:=hide (show (Tryz.prog.info? 55).map (·.size)=some EC.length by rw[hEC];exact zdj)
   have HEO:=hide (show EC.toArray.all (·.oneCell')=true by rw[hEC];exact all_oneCell_toArray (zf8 _ _ _ _ _))
   have HZE:=hide (show (#[.string ⟨#[]⟩,.slice none 0 0,.bool false]:Array Value).size=EC.toArray.size by rw[hEC];rfl)
   obtain ⟨HW3,HEC⟩:=zh2 hW3 hEC
   have HX:=hide (show ∃ h:j<L.length,x=L[j]'h from ⟨hjl,hx⟩)
   obtain ⟨HTK,HNV,HGN,HB3⟩:=zh4 hTK hnv hgn hB3
   have HR3:=hide (zan hB3)
   have hta:=List.take_succ_eq_append_getElem hjl
   rw[← hx] at hta
   have HTA:=hide hta
   have HXV:=hide (show Bts w x.bo x.bc x.val by rw[hx];exact (uh H).val _ (List.getElem_mem hjl))
   have HXM:=hide (show x∈L by rw[hx];exact List.getElem_mem hjl)
   have HG3:=hide (tn (uh HG) g3)
   have HJL:=hide hjl
   have hji:(j:Int)<(n:Int):=by omega
   have hjw:IntKind.i64.wrap ((j:Int)+1)=(j:Int)+1:=by rw[IntKind.wrap_i64];omega
   clear hrow e0 hx hEC hTK hnv hgn hW3 hB3 g3 hta hjl
   subst hao
   have hck:∀ V,Calls Tryz.prog 84 #[.agg EC.toArray] V fun e w'=>e = .returned (if gn then .slice none 0 0 else .slice x.bo nv x.bc)∧V.grownBy w' none:=fun V=>by rw[uh HEC];exact zk2 V TK x.bo nv x.bc gn
   have HCK:=hide hck
   have hM:=uh HM1
   have hmb:=uh HM2
   have hok:=(uh HM).2 x.chg (List.mem_map.2 ⟨x,uh HXM,rfl⟩)
   have hkb:TK.size≤96:=by rw[hsK];exact hok.key2
   have hvb:nv≤65536:=by rw[uh HNV];exact hok.val
   clear hck hok
   cases gn
   case false =>
    have hm2:∃ m2:Nat,m2=m+(9+TK.size+nv):=⟨_,rfl⟩
    obtain ⟨m2,hm2⟩:=hm2
    obtain ⟨z1,hz1⟩:∃ z:Int,z=5+(TK.size:Int):=⟨_,rfl⟩
    obtain ⟨z2,hz2⟩:∃ z:Int,z=z1+4:=⟨_,rfl⟩
    obtain ⟨z3,hz3⟩:∃ z:Int,z=z2+nv:=⟨_,rfl⟩
    have HZ1:=hide (show IntKind.i64.wrap (5+(TK.size:Int))=z1 by rw[IntKind.wrap_i64];omega)
    have HZ2:=hide (show IntKind.i64.wrap (z1+4)=z2 by rw[IntKind.wrap_i64];omega)
    have HZ3:=hide (show IntKind.i64.wrap (z2+(nv:Int))=z3 by rw[IntKind.wrap_i64];omega)
    have HZ4:=hide (show IntKind.i64.wrap ((m:Int)+z3)=(m2:Int) by rw[IntKind.wrap_i64];omega)
    have hnew:m2=2+(((L.take (j+1)).map ChI.chg).flatMap chB).length:=by
     rw[uh HTA,List.map_append,List.flatMap_append,List.length_append,hm2,hM]
     have hc:(([x].map ChI.chg).flatMap chB).length=9+TK.size+nv:=by
      rw[hsK]
      simp only[List.map_cons,List.map_nil,List.flatMap_cons,List.flatMap_nil,List.append_nil,chB,sizS,Chg.norm,ChI.chg,← uh HGN,List.length_cons,List.length_append,zaw]
      simp[uh HNV];omega
     omega
    have HNW:=hide hnew
    have hm2b:m2≤2+(j+1)*65641:=by omega
    have HMB:=hide hm2b
    have hEK:=uh HEC
    clear hsK hM hm2 hz1 hz2 hz3 hnew hm2b hvb hkb hmb hEK
    go_upto_region 5 with (first
     | (refine wpList_load_mid rfl 55 _ rfl b (o+j*3) rfl EC _ hr Tryz.underlying55 rfl (uh HIE) ?_;clear hr)
     | (refine wpList_store_row rfl 55 _ _ rfl wr.heap.size EC.toArray rfl rfl _ _ (heap_alloc_new _ _) (by simpa using uh HIE) (uh HZE) (uh HEO) ?_;rw[← uh HW3])
     )
    refine wp_region_noPanic ?_
    refine wp_region_held_drew (S:=fun V=>W3.grownBy V none) (by kernel_rfl) (zaa (zac W3 none)) (fun _ => ?_)
    refine tq 0 12 (.move (.tmp 3)) ((.int .i64 (m:Int))) (zaa (zac W3 none)) ?_
    refine tq 1 13 (.fieldAddr 55 (.tmp 5) 0) ((.pointer (some ⟨wr.heap.size,0,none⟩))) (zaa (zac W3 none)) ?_
    refine tz 2 14 (.load 9 (.tmp 13)) ((.string TK)) (zaa (zac W3 none)) ?_ (y:=(Or.inl ⟨by rfl,fun V hV=>by (have hv1:=hV.cell hc0 (by simp);go_simp)⟩))
    refine tq 3 15 (.call { callee := .builtin .len,args := #[(.tmp 14)],argTypes := #[9] }) ((.int .i64 (TK.size:Int))) (zaa (zac W3 none)) ?_
    (try simp only[pq])
    refine tz 4 16 (.binOp .add 3 (.const (.int .i64 5)) (.tmp 15) 3) ((.int .i64 z1)) (zaa (zac W3 none)) ?_ (y:=(Or.inl ⟨by rfl,fun V hV=>by (have hv0:=uh HZ1;go_simp)⟩))
    refine tz 5 17 (.binOp .add 3 (.tmp 16) (.const (.int .i64 4)) 3) ((.int .i64 z2)) (zaa (zac W3 none)) ?_ (y:=(Or.inl ⟨by rfl,fun V hV=>by (have hv0:=uh HZ2;go_simp)⟩))
    refine tz 6 18 (.load 55 (.tmp 5)) (.agg EC.toArray) (zaa (zac W3 none)) ?_ (y:=(yieldsIf_load_mid (by rfl) _ _ rfl _ _ rfl EC _ (fun V hV=>zak (uh HR3) hV (by simp)) Tryz.underlying55 rfl (uh HIE)))
    (try simp only[pq])
    refine rdq 7 (some 19) (.call { callee := .value (.func 84),args := #[(.tmp 18)],argTypes := #[55] }) (fun K9 hK9 => ?_)
    go_simp
    go_at_call 84
    refine (uh HCK _).mono ?_
    rintro e w5 ⟨rfl,g5⟩
    have HG5:=hide (tn (zaa (zac W3 none)) g5)
    clear g5
    go_wp2_with fail
    refine hK9.out _ _ (uh HG5) (fun _ => ?_)
    clear hK9 K9
    refine tq 8 20 (.call { callee := .builtin .len,args := #[(.tmp 19)],argTypes := #[53] }) ((.int .i64 (nv:Int))) (uh HG5) ?_
    refine tz 9 21 (.binOp .add 3 (.tmp 17) (.tmp 20) 3) ((.int .i64 z3)) (uh HG5) ?_ (y:=(Or.inl ⟨by rfl,fun V hV=>by (have hv0:=uh HZ3;go_simp)⟩))
    refine tz 10 22 (.binOp .add 3 (.tmp 12) (.tmp 21) 3) ((.int .i64 (m2:Int))) (uh HG5) ?_ (y:=(Or.inl ⟨by rfl,fun V hV=>by (have hv0:=uh HZ4;go_simp)⟩))
    (try simp only[pq])
    refine tq 11 3 (.assign (.tmp 22)) ((.int .i64 (m2:Int))) (uh HG5) ?_
    (try simp only[pq])
    refine wpAnyH_done (by kernel_rfl) ?_ _
    refine NoPanic.normal ?_
    go_wp2
    go_roundw
    case rel=>exact ⟨j+1,m2,by go_num,by omega,rfl,tn (uh HG3) (uh HG5),uh HNW,uh HMB⟩
    case measure=>simp[intOf];omega
   case true =>
    have hm2:∃ m2:Nat,m2=m+(9+TK.size+0):=⟨_,rfl⟩
    obtain ⟨m2,hm2⟩:=hm2
    obtain ⟨z1,hz1⟩:∃ z:Int,z=5+(TK.size:Int):=⟨_,rfl⟩
    obtain ⟨z2,hz2⟩:∃ z:Int,z=z1+4:=⟨_,rfl⟩
    obtain ⟨z3,hz3⟩:∃ z:Int,z=z2+0:=⟨_,rfl⟩
    have HZ1:=hide (show IntKind.i64.wrap (5+(TK.size:Int))=z1 by rw[IntKind.wrap_i64];omega)
    have HZ2:=hide (show IntKind.i64.wrap (z1+4)=z2 by rw[IntKind.wrap_i64];omega)
    have HZ3:=hide (show IntKind.i64.wrap z2=z3 by rw[IntKind.wrap_i64];omega)
    have HZ4:=hide (show IntKind.i64.wrap ((m:Int)+z3)=(m2:Int) by rw[IntKind.wrap_i64];omega)
    have hnew:m2=2+(((L.take (j+1)).map ChI.chg).flatMap chB).length:=by
     rw[uh HTA,List.map_append,List.flatMap_append,List.length_append,hm2,hM]
     have hc:(([x].map ChI.chg).flatMap chB).length=9+TK.size+0:=by
      rw[hsK]
      simp only[List.map_cons,List.map_nil,List.flatMap_cons,List.flatMap_nil,List.append_nil,chB,sizS,Chg.norm,ChI.chg,← uh HGN,List.length_cons,List.length_append,zaw,if_true]
      simp;omega
     omega
    have HNW:=hide hnew
    have hm2b:m2≤2+(j+1)*65641:=by omega
    have HMB:=hide hm2b
    have hEK:=uh HEC
    clear hsK hM hm2 hz1 hz2 hz3 hnew hm2b hvb hkb hmb hEK
    go_upto_region 5 with (first
     | (refine wpList_load_mid rfl 55 _ rfl b (o+j*3) rfl EC _ hr Tryz.underlying55 rfl (uh HIE) ?_;clear hr)
     | (refine wpList_store_row rfl 55 _ _ rfl wr.heap.size EC.toArray rfl rfl _ _ (heap_alloc_new _ _) (by simpa using uh HIE) (uh HZE) (uh HEO) ?_;rw[← uh HW3])
     )
    refine wp_region_noPanic ?_
    refine wp_region_held_drew (S:=fun V=>W3.grownBy V none) (by kernel_rfl) (zaa (zac W3 none)) (fun _ => ?_)
    refine tq 0 12 (.move (.tmp 3)) ((.int .i64 (m:Int))) (zaa (zac W3 none)) ?_
    refine tq 1 13 (.fieldAddr 55 (.tmp 5) 0) ((.pointer (some ⟨wr.heap.size,0,none⟩))) (zaa (zac W3 none)) ?_
    refine tz 2 14 (.load 9 (.tmp 13)) ((.string TK)) (zaa (zac W3 none)) ?_ (y:=(Or.inl ⟨by rfl,fun V hV=>by (have hv1:=hV.cell hc0 (by simp);go_simp)⟩))
    refine tq 3 15 (.call { callee := .builtin .len,args := #[(.tmp 14)],argTypes := #[9] }) ((.int .i64 (TK.size:Int))) (zaa (zac W3 none)) ?_
    (try simp only[pq])
    refine tz 4 16 (.binOp .add 3 (.const (.int .i64 5)) (.tmp 15) 3) ((.int .i64 z1)) (zaa (zac W3 none)) ?_ (y:=(Or.inl ⟨by rfl,fun V hV=>by (have hv0:=uh HZ1;go_simp)⟩))
    refine tz 5 17 (.binOp .add 3 (.tmp 16) (.const (.int .i64 4)) 3) ((.int .i64 z2)) (zaa (zac W3 none)) ?_ (y:=(Or.inl ⟨by rfl,fun V hV=>by (have hv0:=uh HZ2;go_simp)⟩))
    refine tz 6 18 (.load 55 (.tmp 5)) (.agg EC.toArray) (zaa (zac W3 none)) ?_ (y:=(yieldsIf_load_mid (by rfl) _ _ rfl _ _ rfl EC _ (fun V hV=>zak (uh HR3) hV (by simp)) Tryz.underlying55 rfl (uh HIE)))
    (try simp only[pq])
    refine rdq 7 (some 19) (.call { callee := .value (.func 84),args := #[(.tmp 18)],argTypes := #[55] }) (fun K9 hK9 => ?_)
    go_simp
    go_at_call 84
    refine (uh HCK _).mono ?_
    rintro e w5 ⟨rfl,g5⟩
    have HG5:=hide (tn (zaa (zac W3 none)) g5)
    clear g5
    go_wp2_with fail
    refine hK9.out _ _ (uh HG5) (fun _ => ?_)
    clear hK9 K9
    refine tq 8 20 (.call { callee := .builtin .len,args := #[(.tmp 19)],argTypes := #[53] }) ((.int .i64 (0:Int))) (uh HG5) ?_
    refine tz 9 21 (.binOp .add 3 (.tmp 17) (.tmp 20) 3) ((.int .i64 z3)) (uh HG5) ?_ (y:=(Or.inl ⟨by rfl,fun V hV=>by (have hv0:=uh HZ3;go_simp)⟩))
    refine tz 10 22 (.binOp .add 3 (.tmp 12) (.tmp 21) 3) ((.int .i64 (m2:Int))) (uh HG5) ?_ (y:=(Or.inl ⟨by rfl,fun V hV=>by (have hv0:=uh HZ4;go_simp)⟩))
    (try simp only[pq])
    refine tq 11 3 (.assign (.tmp 22)) ((.int .i64 (m2:Int))) (uh HG5) ?_
    (try simp only[pq])
    refine wpAnyH_done (by kernel_rfl) ?_ _
    refine NoPanic.normal ?_
    go_wp2
    go_roundw
    case rel=>exact ⟨j+1,m2,by go_num,by omega,rfl,tn (uh HG3) (uh HG5),uh HNW,uh HMB⟩
    case measure=>simp[intOf];omega
  ·have hji:¬ (j:Int)<(n:Int):=by omega
   have hmR:m=R:=by
    have e:L.take j=L:=List.take_of_length_le (by rw[← uh HN];omega)
    have:=uh HM1
    rw[e] at this
    rw[uh HR,this]
    unfold recB
    rw[List.length_append,zaw]
   subst hmR
   go_wp2
   go_ret
   exact ⟨rfl,uh HG⟩
set_option maxHeartbeats 4000000 in
theorem zk3 (w:World) (ao:Option Addr) (ac:Nat) (L:List ChI) (h:CsI w ao ac L) (hmay:MayC (L.map ChI.chg)) :
  Calls Tryz.prog 58 #[.slice ao L.length ac] w fun e w'=>∃ bo bc,e = .returned (.slice bo (recB (L.map ChI.chg)).length bc)∧Bts w' bo bc (recB (L.map ChI.chg))∧(∀ ad,bo=some ad→w.heap.size≤ad.block)∧w.grownBy w' none:=by
 have hN:=hmay.1
 rw[List.length_map] at hN
 have hrl:=zcy hmay
 have cl:=zg1 w ao ac L h hmay
 obtain ⟨n,hn⟩:∃ n,n=L.length:=⟨_,rfl⟩
 rw[← hn] at hN cl ⊢
 obtain ⟨HN,H,HM⟩:=zh3 hn h hmay
 obtain ⟨R,hR⟩:∃ R,R=(recB (L.map ChI.chg)).length:=⟨_,rfl⟩
 rw[← hR] at hrl cl ⊢
 have hnw:IntKind.u64.wrap (n:Int)=(n:Int):=by rw[IntKind.wrap_u64];omega
 have HR:=hide hR
 have hpre:∀ j,j≤n→(lbS n 2++((L.take j).map ChI.chg).flatMap chB).length≤R:=by
  intro j hj
  have e1:recB (L.map ChI.chg)=(lbS n 2++((L.take j).map ChI.chg).flatMap chB)++((L.drop j).map ChI.chg).flatMap chB:=by
   unfold recB
   rw[List.length_map,← hn,List.append_assoc,← List.flatMap_append,← List.map_append,List.take_append_drop]
  have:=congrArg List.length e1
  rw[List.length_append (bs:=((L.drop j).map ChI.chg).flatMap chB)] at this
  omega
 have HPRE:=hide hpre
 clear hn h hmay hR hpre
 go_enter Tryz.func58,Tryz.ntmps58
 go_wp2_with fail
 refine cl.mono ?_
 rintro e w1 ⟨rfl,g1⟩
 clear cl
 obtain ⟨i0,hi,hz0,hz1,hz2⟩:=info_parts zb5
 obtain ⟨W2,hmk,ho2,g2⟩:=run_make_own (P:=Tryz.prog) (w:=w1) w.heap.size 53 5 i0 (.int .u8 0) 1 Tryz.underlying53 hi hz0 hz1 .i64 .u64 R (by rw[hz2];omega) (by unfold maxLen;omega) g1.size
 have cp:=zre W2 none 0 [] n 2 (Bts.nil _) (by simp)
 rw[List.length_nil,List.nil_append,show nb 2=2 from by decide] at cp
 have HG2:=hide (tn g1 g2)
 have HO2:=hide ho2
 clear i0 hi hz0 hz1 hz2 ho2 g1 g2
 go_wp2_with fail
 refine cp.mono ?_
 rintro e w3 ⟨v3,rfl,⟨a3,c3,rfl,hb3,_⟩,g3⟩
 have HO3:=hide (zhm (uh HO2) g3)
 have HG3:=hide (tn (uh HG2) g3)
 have HB3:=hide hb3
 have hl2:(lb n 2).length=2:=zb6 _ _
 rw[hl2]
 clear cp hmk hb3 g3
 go_wp2_with (refine zbh rfl _ _ rfl w.heap.size _ _ _ rfl (uh HO3) a3 c3 (lb n 2) (uh HB3) 2 hl2.symm rfl (by omega) (uh HG3).size ?_;intro v4 w4 ho4 g4;have HG4:=hide (zed (uh HG3) (uh HO3) g4);have HO4:=hide ho4;clear ho4 g4)
 go_loopw [3,17] (fun v i wr=>∃ (j:Nat),i = .int .i64 j∧j≤n∧Hid (wr.ownsRow w.heap.size 5 1 v (lbS n 2++((L.take j).map ChI.chg).flatMap chB).length ((lbS n 2++((L.take j).map ChI.chg).flatMap chB).map bv))∧Hid (w.grownBy wr none)) (fun _ i _=>n - (intOf i).toNat)
 case atStart =>
  refine ⟨0,rfl,Nat.zero_le _,?_,uh HG4⟩
  have:=uh HO4
  show World.ownsRow _ _ _ _ _ _ _
  simpa[zaw,zb6,show lbS n 2=lb n 2 from rfl] using this
 case round =>
  clear HO4 HG4 HO3 HG3 HB3 HO2 HG2
  obtain ⟨j,rfl,hj,HO,HG⟩:=hrel
  by_cases hlt:j<n
  ·have hjl:j<L.length:=by rw[← uh HN];exact hlt
   obtain ⟨b,o,hao,hrow⟩:=(uh H).row.at j hjl
   obtain ⟨x,hx⟩:∃ x,x=L[j]:=⟨_,rfl⟩
   rw[← hx] at hrow
   obtain ⟨TK,hTK⟩:∃ T,T=str x.key:=⟨_,rfl⟩
   obtain ⟨nv,hnv⟩:∃ n,n=x.val.length:=⟨_,rfl⟩
   obtain ⟨gn,hgn⟩:∃ g,g=x.gone:=⟨_,rfl⟩
   have e0:ciC x=[.string TK,.slice x.bo nv x.bc,.bool gn]:=by rw[hTK,hnv,hgn];rfl
   rw[e0] at hrow
   have hr:=zak hrow (uh HG) (by simp)
   obtain ⟨EC,hEC⟩:∃ E:List Value,E=[.string TK,.slice x.bo nv x.bc,.bool gn]:=⟨_,rfl⟩
   obtain ⟨W3,hW3,hB3,g3⟩:=zbu wr 55 #[.string ⟨#[]⟩,.slice none 0 0,.bool false] EC
   have hc0:W3.cell? ⟨wr.heap.size,0,none⟩=some (.string TK):=by rw[hB3.cell 0,hEC];rfl
   have hc1:W3.cell? ⟨wr.heap.size,1,none⟩=some (.slice x.bo nv x.bc):=by rw[hB3.cell 1,hEC];rfl
   have hc2:W3.cell? ⟨wr.heap.size,2,none⟩=some (.bool gn):=by rw[hB3.cell 2,hEC];rfl
   rw[← hEC] at hr
   have hsK:TK.size=x.key.length:=by rw[hTK,zaq]
   have HIE:=hide (show (Tryz.prog.info? 55).map (·.size)=some EC.length by rw[hEC];exact zdj)
   have HEO:=hide (show EC.toArray.all (·.oneCell')=true by rw[hEC];exact all_oneCell_toArray (zf8 _ _ _ _ _))
   have HZE:=hide (show (#[.string ⟨#[]⟩,.slice none 0 0,.bool false]:Array Value).size=EC.toArray.size by rw[hEC];rfl)
   obtain ⟨HW3,HEC⟩:=zh2 hW3 hEC
   have HX:=hide (show ∃ h:j<L.length,x=L[j]'h from ⟨hjl,hx⟩)
   obtain ⟨HTK,HNV,HGN,HB3⟩:=zh4 hTK hnv hgn hB3
   have HR3:=hide (zan hB3)
   have hta:=List.take_succ_eq_append_getElem hjl
   rw[← hx] at hta
   have HTA:=hide hta
   have HXV:=hide (show Bts w x.bo x.bc x.val by rw[hx];exact (uh H).val _ (List.getElem_mem hjl))
   have HXM:=hide (show x∈L by rw[hx];exact List.getElem_mem hjl)
   have HG3:=hide (tn (uh HG) g3)
   obtain ⟨HGW,HJL⟩:=zh2 g3 hjl
   have hji:(j:Int)<(n:Int):=by omega
   have hjw:IntKind.i64.wrap ((j:Int)+1)=(j:Int)+1:=by rw[IntKind.wrap_i64];omega
   clear hrow e0 hx hEC hTK hnv hgn hW3 hB3 g3 hta hjl
   subst hao
   have hXV3:=(uh HXV).kept (uh HG3) (fun _ e=>by cases e)
   have hok:=(uh HM).2 x.chg (List.mem_map.2 ⟨x,uh HXM,rfl⟩)
   have cc:=znl W3 x hXV3 (by have:=hok.key2;simp only[ChI.chg] at this;omega) (by have:=hok.val;simp only[ChI.chg] at this;omega)
   have eE:(ciC x)=EC:=by rw[uh HEC,uh HTK,uh HNV,uh HGN];rfl
   rw[eE] at cc
   obtain ⟨P0,hP0⟩:∃ Q,Q=lbS n 2++((L.take j).map ChI.chg).flatMap chB:=⟨_,rfl⟩
   obtain ⟨C,hC⟩:∃ Q,Q=chB x.chg:=⟨_,rfl⟩
   rw[← hC] at cc
   obtain ⟨nc,hnc⟩:∃ k,k=C.length:=⟨_,rfl⟩
   rw[← hnc] at cc
   have hP1:lbS n 2++((L.take (j+1)).map ChI.chg).flatMap chB=P0++C:=by
    rw[uh HTA,List.map_append,List.flatMap_append,← List.append_assoc,← hP0,hC]
    simp
   have hbd:P0.length+nc≤4294967296:=by
    have:=uh HPRE (j+1) (by omega)
    rw[hP1,List.length_append,← hnc] at this
    omega
   rw[← hP0] at HO
   obtain ⟨HP1,HNC⟩:=zh2 hP1 hnc
   have HO3:=hide (zhm (uh HO) (uh HGW))
   clear hXV3 hok eE hP0 hC hnc hP1 hsK
   go_wp2_with (first
    | (refine wpList_load_mid rfl 55 _ rfl b (o+j*3) rfl EC _ hr Tryz.underlying55 rfl (uh HIE) ?_;clear hr)
    | (refine wpList_store_row rfl 55 _ _ rfl wr.heap.size EC.toArray rfl rfl _ _ (heap_alloc_new _ _) (by simpa using uh HIE) (uh HZE) (uh HEO) ?_;rw[← uh HW3])
    | (refine wpList_load_mid rfl 55 _ rfl wr.heap.size 0 rfl EC _ (uh HR3) Tryz.underlying55 rfl (uh HIE) ?_)
    | (go_at_call 79;refine cc.mono ?_;rintro e w5 ⟨a5,c5,rfl,hb5,_,g5⟩;have HB5:=hide hb5;have HO5:=hide (zhm (uh HO3) g5);have HG5:=hide (tn (uh HG3) g5);clear cc hb5 g5)
    | (refine zbh rfl _ _ rfl w.heap.size _ _ _ rfl (uh HO5) a5 c5 C (uh HB5) nc (uh HNC) rfl (by omega) (uh HG5).size ?_;intro v6 w6 ho6 g6;have HG6:=hide (zed (uh HG5) (uh HO5) g6);have HO6:=hide ho6;clear ho6 g6))
   go_roundw
   case rel =>
    refine ⟨j+1,by go_num,by omega,?_,uh HG6⟩
    show World.ownsRow _ _ _ _ _ _ _
    rw[uh HP1,List.length_append,← uh HNC,List.map_append]
    exact uh HO6
   case measure=>simp[intOf];omega
  ·have hji:¬ (j:Int)<(n:Int):=by omega
   have hfin:lbS n 2++((L.take j).map ChI.chg).flatMap chB=recB (L.map ChI.chg):=by
    have e:L.take j=L:=List.take_of_length_le (by rw[← uh HN];omega)
    rw[e]
    unfold recB
    rw[List.length_map,← uh HN]
   rw[hfin] at HO
   go_wp2
   go_ret
   obtain ⟨hl,bo,bc,rfl,q1,q2⟩:=zc1 (uh HO)
   exact ⟨bo,bc,by rw[uh HR];rfl,q1,fun ad e=>(q2 ad e).1,uh HG⟩
set_option maxHeartbeats 4000000 in
theorem zf9 (w:World) (ao:Option Addr) (ac:Nat) (L:List ChI) (h:CsI w ao ac L) (hl:L.length≤1000000) :
  Calls Tryz.prog 37 #[.slice ao L.length ac] w fun e w'=>e = .returned (.bool (mayB (L.map ChI.chg)))∧w.grownBy w' none:=by
 obtain ⟨n,hn⟩:∃ n,n=L.length:=⟨_,rfl⟩
 rw[← hn]
 obtain ⟨HN,H⟩:=zh2 hn h
 have hn1:n≤1000000:=by omega
 clear hn h hl
 by_cases hm:4096<n
 ·have hmi:(4096:Int)<(n:Int):=by omega
  have e:mayB (L.map ChI.chg)=false:=by
   cases hh:mayB (L.map ChI.chg) with
   | false=>rfl
   | true=>have:=((za5 _).1 hh).1;rw[List.length_map] at this;have:=uh HN;omega
  rw[e]
  clear e hm
  go_enter Tryz.func37,Tryz.ntmps37
  go_wp2
  go_ret
  exact ⟨rfl,zac _ _⟩
 ·have hmi:¬ (4096:Int)<(n:Int):=by omega
  obtain ⟨y,hy⟩:∃ y,y=mayB (L.map ChI.chg):=⟨_,rfl⟩
  rw[← hy]
  have HY:=hide hy
  clear hm hy
  go_enter Tryz.func37,Tryz.ntmps37
  go_wp2
  go_loopw [10] (fun i wr=>∃ j:Nat,i = .int .i64 j∧j≤n∧Hid (w.grownBy wr none)∧Hid (∀ c∈L.take j,c.chg.Ok)) (fun i _=>n - (intOf i).toNat)
  case atStart=>exact ⟨0,rfl,Nat.zero_le _,zac _ _,fun c hc=>by simp at hc⟩
  case round =>
   obtain ⟨j,rfl,hj,HG,HJ⟩:=hrel
   by_cases hlt:j<n
   ·have hjl:j<L.length:=by rw[← uh HN];exact hlt
    obtain ⟨b,o,hao,hrow⟩:=(uh H).row.at j hjl
    obtain ⟨x,hx⟩:∃ x,x=L[j]:=⟨_,rfl⟩
    rw[← hx] at hrow
    obtain ⟨TK,hTK⟩:∃ T,T=str x.key:=⟨_,rfl⟩
    obtain ⟨nv,hnv⟩:∃ n,n=x.val.length:=⟨_,rfl⟩
    obtain ⟨gn,hgn⟩:∃ g,g=x.gone:=⟨_,rfl⟩
    have e0:ciC x=[.string TK,.slice x.bo nv x.bc,.bool gn]:=by rw[hTK,hnv,hgn];rfl
    rw[e0] at hrow
    have hr:=zak hrow (uh HG) (by simp)
    obtain ⟨EC,hEC⟩:∃ E:List Value,E=[.string TK,.slice x.bo nv x.bc,.bool gn]:=⟨_,rfl⟩
    obtain ⟨W3,hW3,hB3,g3⟩:=zbu wr 55 #[.string ⟨#[]⟩,.slice none 0 0,.bool false] EC
    have hc0:W3.cell? ⟨wr.heap.size,0,none⟩=some (.string TK):=by rw[hB3.cell 0,hEC];rfl
    have hc1:W3.cell? ⟨wr.heap.size,1,none⟩=some (.slice x.bo nv x.bc):=by rw[hB3.cell 1,hEC];rfl
    have hc2:W3.cell? ⟨wr.heap.size,2,none⟩=some (.bool gn):=by rw[hB3.cell 2,hEC];rfl
    rw[← hEC] at hr
    have hsK:TK.size=x.key.length:=by rw[hTK,zaq]
    have HIE:=hide (show (Tryz.prog.info? 55).map (·.size)=some EC.length by rw[hEC];exact zdj)
    have HEO:=hide (show EC.toArray.all (·.oneCell')=true by rw[hEC];exact all_oneCell_toArray (zf8 _ _ _ _ _))
    have HZE:=hide (show (#[.string ⟨#[]⟩,.slice none 0 0,.bool false]:Array Value).size=EC.toArray.size by rw[hEC];rfl)
    obtain ⟨HW3,HEC⟩:=zh2 hW3 hEC
    have HX:=hide (show ∃ h:j<L.length,x=L[j]'h from ⟨hjl,hx⟩)
    obtain ⟨HTK,HNV,HGN,HB3⟩:=zh4 hTK hnv hgn hB3
    have HR3:=hide (zan hB3)
    have hta:=List.take_succ_eq_append_getElem hjl
    rw[← hx] at hta
    have HTA:=hide hta
    have HXV:=hide (show Bts w x.bo x.bc x.val by rw[hx];exact (uh H).val _ (List.getElem_mem hjl))
    have HXM:=hide (show x∈L by rw[hx];exact List.getElem_mem hjl)
    have HG3:=hide (tn (uh HG) g3)
    have HJL:=hide hjl
    have hji:(j:Int)<(n:Int):=by omega
    have hjw:IntKind.i64.wrap ((j:Int)+1)=(j:Int)+1:=by rw[IntKind.wrap_i64];omega
    clear hrow e0 hx hEC hTK hnv hgn hW3 hB3 g3 hta hjl
    subst hao
    have hno:¬ x.chg.Ok→y=false:=fun hk=>by
     rw[uh HY]
     cases hh:mayB (L.map ChI.chg) with
     | false=>rfl
     | true=>exact absurd (((za5 _).1 hh).2 x.chg (List.mem_map.2 ⟨x,uh HXM,rfl⟩)) hk
    have hnvl:=uh HNV
    by_cases h0:x.key.length<1
    ·have h0i:(TK.size:Int)<1:=by omega
     have hyf:=hno (fun hk=>by have:=hk.key1;simp only[ChI.chg] at this;omega)
     subst hyf
     clear hno h0 hsK hnvl
     go_wp2_with (first
      | (refine wpList_load_mid rfl 55 _ rfl b (o+j*3) rfl EC _ hr Tryz.underlying55 rfl (uh HIE) ?_;clear hr)
      | (refine wpList_store_row rfl 55 _ _ rfl wr.heap.size EC.toArray rfl rfl _ _ (heap_alloc_new _ _) (by simpa using uh HIE) (uh HZE) (uh HEO) ?_;rw[← uh HW3])
      )
     go_ret
     exact ⟨rfl,uh HG3⟩
    ·have h0i:¬ (TK.size:Int)<1:=by omega
     by_cases h1:96<x.key.length
     ·have h1i:(96:Int)<(TK.size:Int):=by omega
      have hyf:=hno (fun hk=>by have:=hk.key2;simp only[ChI.chg] at this;omega)
      subst hyf
      clear hno h0 h1 hsK hnvl
      go_wp2_with (first
       | (refine wpList_load_mid rfl 55 _ rfl b (o+j*3) rfl EC _ hr Tryz.underlying55 rfl (uh HIE) ?_;clear hr)
       | (refine wpList_store_row rfl 55 _ _ rfl wr.heap.size EC.toArray rfl rfl _ _ (heap_alloc_new _ _) (by simpa using uh HIE) (uh HZE) (uh HEO) ?_;rw[← uh HW3])
       )
      go_ret
      exact ⟨rfl,uh HG3⟩
     ·have h1i:¬ (96:Int)<(TK.size:Int):=by omega
      by_cases h2:65536<x.val.length
      ·have h2i:(65536:Int)<(nv:Int):=by omega
       have hyf:=hno (fun hk=>by have:=hk.val;simp only[ChI.chg] at this;omega)
       subst hyf
       clear hno h0 h1 h2 hsK hnvl
       go_wp2_with (first
        | (refine wpList_load_mid rfl 55 _ rfl b (o+j*3) rfl EC _ hr Tryz.underlying55 rfl (uh HIE) ?_;clear hr)
        | (refine wpList_store_row rfl 55 _ _ rfl wr.heap.size EC.toArray rfl rfl _ _ (heap_alloc_new _ _) (by simpa using uh HIE) (uh HZE) (uh HEO) ?_;rw[← uh HW3])
        )
       go_ret
       exact ⟨rfl,uh HG3⟩
      ·have h2i:¬ (65536:Int)<(nv:Int):=by omega
       have HNW:=hide (show ∀ c∈L.take (j+1),c.chg.Ok from fun c hc=>by
        rw[uh HTA] at hc
        rcases List.mem_append.1 hc with hc | hc
        ·exact uh HJ c hc
        ·rw[List.mem_singleton.1 hc]
         exact ⟨by simp only[ChI.chg];omega,by simp only[ChI.chg];omega,by simp only[ChI.chg];omega⟩)
       clear hno h0 h1 h2 hsK hnvl
       go_wp2_with (first
        | (refine wpList_load_mid rfl 55 _ rfl b (o+j*3) rfl EC _ hr Tryz.underlying55 rfl (uh HIE) ?_;clear hr)
        | (refine wpList_store_row rfl 55 _ _ rfl wr.heap.size EC.toArray rfl rfl _ _ (heap_alloc_new _ _) (by simpa using uh HIE) (uh HZE) (uh HEO) ?_;rw[← uh HW3])
        )
       go_roundw
       case rel=>exact ⟨j+1,by go_num,by omega,uh HG3,HNW⟩
       case measure=>simp[intOf];omega
   ·have hji:¬ (j:Int)<(n:Int):=by omega
    have hyt:y=true:=by
     rw[uh HY]
     refine (za5 _).2 ⟨by rw[List.length_map,← uh HN];omega,fun c hc => ?_⟩
     obtain ⟨x,hx,rfl⟩:=List.mem_map.1 hc
     have e:L.take j=L:=List.take_of_length_le (by rw[← uh HN];omega)
     have:=uh HJ
     rw[e] at this
     exact this x hx
    subst hyt
    go_wp2
    go_ret
    exact ⟨rfl,uh HG⟩
end Go.Proofs.YtoilcpdhhlcidaaGreatDoor
