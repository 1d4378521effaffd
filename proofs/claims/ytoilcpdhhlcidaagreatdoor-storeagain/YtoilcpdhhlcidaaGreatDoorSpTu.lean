/- Lemmas. -/
import Derived.Laws.IdiomStrings
import Derived.Test.YtoilcpdhhlcidaaGreatDoorSpW
import Derived.Test.YtoilcpdhhlcidaaGreatDoorLaySz
namespace Go.Proofs.YtoilcpdhhlcidaaGreatDoor
open Go.RowKit
set_option maxRecDepth 100000
theorem zie (w:World) (l:List UInt8) (hl:l.length≤maxLen):∃ cap W1,(convert 9 53 (.string (str l))).run Tryz.prog w = .ok (.slice (some ⟨w.heap.size,0,none⟩) l.length cap) W1∧Bts W1 (some ⟨w.heap.size,0,none⟩) cap l∧w.grownBy W1 none:=by
 have h:=run_bytes_of_string (P:=Tryz.prog) w 9 53 5 (str l) Tryz.underlying9 Tryz.underlying53 Tryz.underlying5
 rw[zby] at h
 refine ⟨_,_,h,?_,zad (zab (zaa _ _)) _⟩
 refine ⟨(fun e=>by cases e),grownCap_ge _ _ _ _,grownCap_le_maxLen _ _ _ _ hl,(fun ad e _=>by cases e;rfl),(fun ad e i hi => ?_)⟩
 cases e
 have hh:(w.drew.alloc (.cells (bytesRow (str l) (grownCap w l.length 0 5)) 5 ((bytesRow (str l) (grownCap w l.length 0 5)).size,(bytesRow (str l) (grownCap w l.length 0 5)).size+1))).heap[w.heap.size]? = some (.cells (bytesRow (str l) (grownCap w l.length 0 5)) 5 ((bytesRow (str l) (grownCap w l.length 0 5)).size,(bytesRow (str l) (grownCap w l.length 0 5)).size+1)):=heap_alloc_new w.drew _
 rw[show (⟨w.heap.size,0,none⟩:Addr).off+i=i from Nat.zero_add i,cell_of_row _ _ _ _ _ _ hh]
 unfold bytesRow
 rw[Array.getElem?_append_left (by simp[str];exact hi)]
 simp[str,hi]
theorem zd3 {P:Program} {w w' : World} {ops:Array Oper} {o:Oper} {a:Act} {K:Act→World→Prop} {Q:Exit→Act→World→Prop} {E:Prop} (hw:Region.wanted o (yielded ops a.tmps)=true) (t t' : TypeId) (x:Operand) (ho:o.op = .convert t t' x)
  (X s:Value) (hx:a.eval x=X) (hr:(convert t t' X).run P w = .ok s w') (h:K (a.put o.dst s) w'):if Region.wanted o (yielded ops a.tmps)=true then Oper.wp P o a w K Q else E:=by
 rw[if_pos hw]
 unfold Oper.wp execOp
 simp only[ho,hx,hr,Sem.run_bind,Result.andThen_ok]
 exact h
theorem zc4:(Tryz.prog.info? 55).map (·.size)=some 3:=by kernel_rfl
theorem zfr (K:ByteArray) (bo:Option Addr) (n c:Nat) (g:Bool):∀ u∈([.string K,.slice bo n c,.bool g]:List Value),u.oneCell'=true:=by
 intro u hu
 simp only[List.mem_cons,List.not_mem_nil,or_false] at hu
 rcases hu with rfl | rfl | rfl <;> rfl
set_option maxHeartbeats 1000000 in
theorem zkc (w:World) (K:ByteArray) (bo:Option Addr) (n c:Nat) (g:Bool) :
  Calls Tryz.prog 84 #[.agg #[.string K,.slice bo n c,.bool g]] w fun e w'=>e = .returned (if g then .slice none 0 0 else .slice bo n c)∧w.grownBy w' none:=by
 obtain ⟨W1,hW1,hB1,g1⟩:=zal w 55 [.string K,.slice bo n c,.bool g]
 have c1:=hB1.cell 1
 have c2:=hB1.cell 2
 simp only[List.getElem?_cons_zero,List.getElem?_cons_succ] at c1 c2
 have HW1:=hide (show W1=w.alloc (.cells #[.string K,.slice bo n c,.bool g] 55) from hW1)
 clear hW1 hB1
 cases g
 ·go_enter Tryz.func84,Tryz.ntmps84
  go_wp2_with (rw[← uh HW1])
  go_ret
  exact ⟨rfl,g1⟩
 ·go_enter Tryz.func84,Tryz.ntmps84
  go_wp2_with (rw[← uh HW1])
  go_ret
  exact ⟨rfl,g1⟩
set_option maxHeartbeats 4000000 in
theorem zmk (w:World) (x:ChI) (hb:Bts w x.bo x.bc x.val) (hk:x.key.length≤100000) (hv:x.val.length≤70000) :
  Calls Tryz.prog 79 #[.agg (ciC x).toArray] w fun e w'=>∃ ao c,e = .returned (.slice ao (chB x.chg).length c)∧Bts w' ao c (chB x.chg)∧(∀ ad,ao=some ad→w.heap.size≤ad.block)∧w.grownBy w' none:=by
 obtain ⟨TK,hTK⟩:∃ T,T=str x.key:=⟨_,rfl⟩
 obtain ⟨nk,hnk⟩:∃ n,n=x.key.length:=⟨_,rfl⟩
 obtain ⟨nv,hnv⟩:∃ n,n=x.val.length:=⟨_,rfl⟩
 obtain ⟨gn,hgn⟩:∃ g,g=x.gone:=⟨_,rfl⟩
 obtain ⟨CC,hCC⟩:∃ C:List Value,C=[.string TK,.slice x.bo nv x.bc,.bool gn]:=⟨_,rfl⟩
 have e0:ciC x=[.string TK,.slice x.bo nv x.bc,.bool gn]:=by rw[hTK,hnv,hgn];rfl
 rw[e0]
 obtain ⟨W1,hW1,hB1,g1⟩:=zal w 55 [.string TK,.slice x.bo nv x.bc,.bool gn]
 have hcr:W1.rangeAt w.heap.size 0 CC:=by rw[hCC];exact zao hB1
 have c0:=hB1.cell 0
 have c2:=hB1.cell 2
 simp only[List.getElem?_cons_zero,List.getElem?_cons_succ] at c0 c2
 have HW1:=hide (show W1=w.alloc (.cells #[.string TK,.slice x.bo nv x.bc,.bool gn] 55) from hW1)
 have s1:W1.heap.size=w.heap.size+1:=by rw[hW1,World.size_alloc]
 have HCI:=hide (show (Tryz.prog.info? 55).map (·.size)=some CC.length by rw[hCC];exact zc4)
 have hck:∀ V,Calls Tryz.prog 84 #[.agg CC.toArray] V fun e w'=>e = .returned (if gn then .slice none 0 0 else .slice x.bo nv x.bc)∧V.grownBy w' none:=fun V=>by rw[hCC];exact zkc V TK x.bo nv x.bc gn
 obtain ⟨HCK,HTK,HNK,HNV⟩:=zh4 hck hTK hnk hnv
 have HKM:=hide (show x.key.length≤maxLen by unfold maxLen;omega)
 have HXV:=hide (hb.kept g1 (fun _ e=>by cases e))
 have HLK:=hide (show ([0]:List UInt8).length+16+x.key.length≤70368744177664 by simp;omega)
 obtain ⟨W2,hW2,hB2,g2⟩:=zal W1 5 [.int .u8 0]
 have g02:=tn g1 g2
 cases gn
 case false =>
  have e1:chB x.chg=([0]++layS x.key)++layS x.val:=by
   unfold chB Chg.norm ChI.chg
   simp only[← hgn]
   rfl
  have HE:=hide e1
  have HLV:=hide (show ([0]++layS x.key).length+16+(x.val:List UInt8).length≤70368744177664 by simp[layS,zc3];omega)
  obtain ⟨pb,hpb⟩:∃ p,p=W1.heap.size:=⟨_,rfl⟩
  rw[← hpb] at hB2
  have HW2:=hide (show W2=W1.alloc (.cells #[.int .u8 0] 5) from hW2)
  have hB3:=hB2
  have g3:=g2
  have hW3:True:=trivial
  have HW3:=hide hW3
  have HPB:=hide (show Bts W2 (some ⟨pb,0,none⟩) 1 [0] from zb6 (l:=[0]) (zao hB3) (by unfold maxLen;decide))
  have HC0:=hide (g3.cell c0 (by simp))
  have hc2:=g2.cell c2 (by simp)
  have HCR:=hide (zak hcr g3 (by simp))
  have HG:=hide (show W2.grownBy W2 none from zaa _ _)
  have HGW:=hide (tn g1 g3)
  have HXV3:=hide ((uh HXV).kept g3 (fun _ e=>by cases e))
  have HPP:=hide hpb
  clear hW1 hB1 hcr c0 c2 hck hTK hnk hnv hgn hb hk hv e0 e1 hCC hW2 hB2 g02 g2 g1 s1 hpb hB3 g3 hW3 HXV
  go_enter Tryz.func79,Tryz.ntmps79
  go_upto_region 4 with (first
   | (rw[← uh HW1])
   | (rw[← uh HPP,← uh HW2]))
  refine wp_region_noPanic ?_
  refine wp_region_held_drew (S:=fun V=>W2.grownBy V none) (by kernel_rfl) (zab (uh HG)) (fun _ => ?_)
  refine tq 0 9 (.move (.tmp 3)) (.slice (some ⟨pb,0,none⟩) 1 1) (zab (uh HG)) ?_
  refine tq 1 10 (.fieldAddr 55 (.tmp 1) 0) (.pointer (some ⟨w.heap.size,0,none⟩)) (zab (uh HG)) ?_
  refine tz 2 11 (.load 9 (.tmp 10)) (.string TK) (zab (uh HG)) ?_ (y:=(Or.inl ⟨by rfl,fun V hV=>by (have hv1:=hV.cell (uh HC0) (by simp);go_simp)⟩))
  refine tz 5 14 (.load 55 (.tmp 1)) (.agg CC.toArray) (zab (uh HG)) ?_ (y:=(yieldsIf_load_mid (by rfl) _ _ rfl _ _ rfl CC _ (fun V hV=>zak (uh HCR) hV (by simp)) Tryz.underlying55 rfl (uh HCI)))
  (try simp only[pq])
  refine rdq 3 (some 12) (.convert 9 53 (.tmp 11)) (fun K9 hK9 => ?_)
  obtain ⟨cp,Wc,hcv,hkb,gc⟩:=zie _ x.key (uh HKM)
  rw[← uh HTK,← uh HNK] at hcv
  refine zd3 (by rfl) 9 53 _ rfl (.string TK) _ rfl hcv ?_
  have HGC:=hide (tn (zab (uh HG)) gc)
  have HKB:=hide hkb
  have HP3:=hide ((uh HPB).kept (tn (zab (zaa W2 none)) gc) (fun _ e=>by cases e))
  clear hcv hkb gc
  refine hK9.out _ _ (uh HGC) (fun _ => ?_)
  clear hK9 K9
  (try simp only[pq])
  refine rdq 4 (some 13) (.call { callee := .value (.func 99),args := #[(.tmp 9),(.tmp 12)],argTypes := #[53,53] }) (fun K9 hK9 => ?_)
  go_simp
  have cs:=zdf Wc _ _ _ _ _ _ (uh HP3) (uh HKB) (uh HLK)
  rw[show ([0]:List UInt8).length=1 from rfl,← uh HNK] at cs
  go_at_call 99
  refine cs.mono ?_
  rintro e w4 ⟨v4,rfl,⟨a4,c4,rfl,hb4,_⟩,g4⟩
  have HB4:=hide hb4
  have HG4:=hide (tn (uh HGC) g4)
  clear cs hb4 g4
  go_wp2_with fail
  refine hK9.out _ _ (uh HG4) (fun _ => ?_)
  clear hK9 K9
  (try simp only[pq])
  refine rdq 6 (some 15) (.call { callee := .value (.func 84),args := #[(.tmp 14)],argTypes := #[55] }) (fun K9 hK9 => ?_)
  go_simp
  go_at_call 84
  refine (uh HCK _).mono ?_
  rintro e w5 ⟨rfl,g5⟩
  have HG5:=hide (tn (uh HG4) g5)
  have HB5:=hide ((uh HB4).kept g5 (fun _ e=>by cases e))
  clear g5
  go_wp2_with fail
  refine hK9.out _ _ (uh HG5) (fun _ => ?_)
  clear hK9 K9
  (try simp only[pq])
  refine rdq 7 (some 16) (.call { callee := .value (.func 99),args := #[(.tmp 13),(.tmp 15)],argTypes := #[53,53] }) (fun K9 hK9 => ?_)
  go_simp
  have cs:=zdf _ _ _ _ _ _ _ (uh HB5) ((uh HXV3).kept (uh HG5) (fun _ e=>by cases e)) (uh HLV)
  rw[← uh HNV] at cs
  go_at_call 99
  refine cs.mono ?_
  rintro e w6 ⟨v6,rfl,⟨a6,c6,rfl,hb6,q6⟩,g6⟩
  have HB6:=hide hb6
  have HQ6:=hide (fun ad e=>Nat.le_trans (uh HG5).size (q6 ad e).1)
  have HG6:=hide (tn (uh HG5) g6)
  clear cs hb6 q6 g6
  obtain ⟨n6,hn6⟩:∃ n,n=(([0]++layS x.key)++layS x.val).length:=⟨_,rfl⟩
  rw[← hn6]
  have HN6:=hide hn6
  clear hn6
  go_wp2_with fail
  refine hK9.out _ _ (uh HG6) (fun _ => ?_)
  clear hK9 K9
  refine tq 8 2 (.assign (.tmp 16)) ((.slice a6 n6 c6)) (uh HG6) ?_
  (try simp only[pq])
  refine wpAnyH_done (by kernel_rfl) ?_ _
  refine NoPanic.normal ?_
  go_wp2
  go_ret
  refine ⟨a6,c6,?_,?_,fun ad e=>Nat.le_trans (uh HGW).size (uh HQ6 ad e),tn (uh HGW) (uh HG6)⟩
  ·rw[uh HE,uh HN6];rfl
  ·rw[uh HE];exact uh HB6
 case true =>
  have e1:chB x.chg=([1]++layS x.key)++layS []:=by
   unfold chB Chg.norm ChI.chg
   simp only[← hgn]
   rfl
  have HE:=hide e1
  have HLV:=hide (show ([1]++layS x.key).length+16+([]:List UInt8).length≤70368744177664 by simp[layS,zc3];omega)
  obtain ⟨pb,hpb⟩:∃ p,p=W1.heap.size:=⟨_,rfl⟩
  rw[← hpb] at hB2
  have HW2:=hide (show W2=W1.alloc (.cells #[.int .u8 0] 5) from hW2)
  have hpq:pb≠w.heap.size:=by omega
  obtain ⟨W3,hW3⟩:∃ W,W=W2.setCell ⟨pb,0,none⟩ (.int .u8 1):=⟨_,rfl⟩
  have hB3:Blk W3 pb 5 [.int .u8 1]:=by rw[hW3];exact hB2.set 0 _
  have g3:W1.grownBy W3 none:=by rw[hW3,hpb];exact zah g2 _ _ (Or.inl (Nat.le_refl _))
  have hcw:=hB2.cell 0
  have hcz:=hB2.fz 0
  have HW3:=hide hW3
  have HPB:=hide (show Bts W3 (some ⟨pb,0,none⟩) 1 [1] from zb6 (l:=[1]) (zao hB3) (by unfold maxLen;decide))
  have HC0:=hide (g3.cell c0 (by simp))
  have hc2:=g2.cell c2 (by simp)
  have HCR:=hide (zak hcr g3 (by simp))
  have HG:=hide (show W3.grownBy W3 none from zaa _ _)
  have HGW:=hide (tn g1 g3)
  have HXV3:=hide ((uh HXV).kept g3 (fun _ e=>by cases e))
  have HPP:=hide hpb
  clear hW1 hB1 hcr c0 c2 hck hTK hnk hnv hgn hb hk hv e0 e1 hCC hW2 hB2 g02 g2 g1 s1 hpb hB3 g3 hW3 HXV
  go_enter Tryz.func79,Tryz.ntmps79
  go_upto_region 4 with (first
   | (rw[← uh HW1])
   | (rw[← uh HPP,← uh HW2])
   | (rw[← uh HW3]))
  refine wp_region_noPanic ?_
  refine wp_region_held_drew (S:=fun V=>W3.grownBy V none) (by kernel_rfl) (zab (uh HG)) (fun _ => ?_)
  refine tq 0 9 (.move (.tmp 3)) (.slice (some ⟨pb,0,none⟩) 1 1) (zab (uh HG)) ?_
  refine tq 1 10 (.fieldAddr 55 (.tmp 1) 0) (.pointer (some ⟨w.heap.size,0,none⟩)) (zab (uh HG)) ?_
  refine tz 2 11 (.load 9 (.tmp 10)) (.string TK) (zab (uh HG)) ?_ (y:=(Or.inl ⟨by rfl,fun V hV=>by (have hv1:=hV.cell (uh HC0) (by simp);go_simp)⟩))
  refine tz 5 14 (.load 55 (.tmp 1)) (.agg CC.toArray) (zab (uh HG)) ?_ (y:=(yieldsIf_load_mid (by rfl) _ _ rfl _ _ rfl CC _ (fun V hV=>zak (uh HCR) hV (by simp)) Tryz.underlying55 rfl (uh HCI)))
  (try simp only[pq])
  refine rdq 3 (some 12) (.convert 9 53 (.tmp 11)) (fun K9 hK9 => ?_)
  obtain ⟨cp,Wc,hcv,hkb,gc⟩:=zie _ x.key (uh HKM)
  rw[← uh HTK,← uh HNK] at hcv
  refine zd3 (by rfl) 9 53 _ rfl (.string TK) _ rfl hcv ?_
  have HGC:=hide (tn (zab (uh HG)) gc)
  have HKB:=hide hkb
  have HP3:=hide ((uh HPB).kept (tn (zab (zaa W3 none)) gc) (fun _ e=>by cases e))
  clear hcv hkb gc
  refine hK9.out _ _ (uh HGC) (fun _ => ?_)
  clear hK9 K9
  (try simp only[pq])
  refine rdq 4 (some 13) (.call { callee := .value (.func 99),args := #[(.tmp 9),(.tmp 12)],argTypes := #[53,53] }) (fun K9 hK9 => ?_)
  go_simp
  have cs:=zdf Wc _ _ _ _ _ _ (uh HP3) (uh HKB) (uh HLK)
  rw[show ([1]:List UInt8).length=1 from rfl,← uh HNK] at cs
  go_at_call 99
  refine cs.mono ?_
  rintro e w4 ⟨v4,rfl,⟨a4,c4,rfl,hb4,_⟩,g4⟩
  have HB4:=hide hb4
  have HG4:=hide (tn (uh HGC) g4)
  clear cs hb4 g4
  go_wp2_with fail
  refine hK9.out _ _ (uh HG4) (fun _ => ?_)
  clear hK9 K9
  (try simp only[pq])
  refine rdq 6 (some 15) (.call { callee := .value (.func 84),args := #[(.tmp 14)],argTypes := #[55] }) (fun K9 hK9 => ?_)
  go_simp
  go_at_call 84
  refine (uh HCK _).mono ?_
  rintro e w5 ⟨rfl,g5⟩
  have HG5:=hide (tn (uh HG4) g5)
  have HB5:=hide ((uh HB4).kept g5 (fun _ e=>by cases e))
  clear g5
  go_wp2_with fail
  refine hK9.out _ _ (uh HG5) (fun _ => ?_)
  clear hK9 K9
  (try simp only[pq])
  refine rdq 7 (some 16) (.call { callee := .value (.func 99),args := #[(.tmp 13),(.tmp 15)],argTypes := #[53,53] }) (fun K9 hK9 => ?_)
  go_simp
  have cs:=zdf _ _ _ _ _ _ _ (uh HB5) (Bts.nil _) (uh HLV)
  rw[List.length_nil] at cs
  go_at_call 99
  refine cs.mono ?_
  rintro e w6 ⟨v6,rfl,⟨a6,c6,rfl,hb6,q6⟩,g6⟩
  have HB6:=hide hb6
  have HQ6:=hide (fun ad e=>Nat.le_trans (uh HG5).size (q6 ad e).1)
  have HG6:=hide (tn (uh HG5) g6)
  clear cs hb6 q6 g6
  obtain ⟨n6,hn6⟩:∃ n,n=(([1]++layS x.key)++layS []).length:=⟨_,rfl⟩
  rw[← hn6]
  have HN6:=hide hn6
  clear hn6
  go_wp2_with fail
  refine hK9.out _ _ (uh HG6) (fun _ => ?_)
  clear hK9 K9
  refine tq 8 2 (.assign (.tmp 16)) ((.slice a6 n6 c6)) (uh HG6) ?_
  (try simp only[pq])
  refine wpAnyH_done (by kernel_rfl) ?_ _
  refine NoPanic.normal ?_
  go_wp2
  go_ret
  refine ⟨a6,c6,?_,?_,fun ad e=>Nat.le_trans (uh HGW).size (uh HQ6 ad e),tn (uh HGW) (uh HG6)⟩
  ·rw[uh HE,uh HN6];rfl
  ·rw[uh HE];exact uh HB6
def kC (v:List UInt8):Chg:=⟨[107],v,false⟩
structure TuI (rs:RSt) (i:Nat):Prop where
 half:rs.half=8
 two:2≤rs.used
 fits:rs.used≤8
 V:rs.V=[]∨∃ v,rs.V=[([107],v)]
 moves:rs.moves≤i
 none:rs.moves=0→2+2*i≤rs.used
theorem TuI.begin:TuI ⟨[],8,2,0⟩ 0:=⟨rfl,by simp,by simp,Or.inl rfl,by simp,by simp⟩
theorem TuI.small {rs:RSt} {i:Nat} (h:TuI rs i):rs.V.length≤1:=by
 rcases h.V with e | ⟨v,e⟩ <;> rw[e] <;> simp
theorem TuI.moved {rs:RSt} {i:Nat} (h:TuI rs i) (hi:8≤i):0<rs.moves:=by
 have:=h.none
 have:=h.fits
 omega
theorem zok (V:List (List UInt8 × List UInt8)) (k v:List UInt8):(putK V k v).length≤V.length+1:=by
 induction V with
 | nil=>simp[putK]
 | cons y V ih =>
   obtain ⟨a,x⟩:=y
   rw[putK]
   split
   ·simp
   ·split
    ·simp
    ·simp only[List.length_cons];omega
theorem zif:∀ (l:List Chg) (V:List (List UInt8 × List UInt8)),(zaj V l).length≤V.length+l.length
 | [],_=>Nat.le_refl _
 | c::l,V=>by
   have h1:=zif l (zbn V c)
   have h2:(zbn V c).length≤V.length+1:=by
    unfold zbn
    split
    ·exact Nat.le_succ_of_le (List.length_filter_le _ _)
    ·exact zok _ _ _
   show (zaj (zbn V c) l).length≤_
   rw[List.length_cons]
   omega
theorem zp3 (rs:RSt) (l:List Chg):(cmS rs l).1.V.length≤rs.V.length+l.length∧(cmS rs l).1.moves≤rs.moves+1∧(cmS rs l).1.half=rs.half:=by
 have h:=zif l rs.V
 unfold cmS
 split
 ·exact ⟨by simp,by simp,rfl⟩
 ·split
  ·exact ⟨by simp,by simp,rfl⟩
  ·split
   ·exact ⟨h,Nat.le_succ _,rfl⟩
   ·split
    ·exact ⟨by simp,by simp,rfl⟩
    ·exact ⟨h,Nat.le_refl _,rfl⟩
end Go.Proofs.YtoilcpdhhlcidaaGreatDoor
