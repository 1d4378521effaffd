/- Lemmas. -/
import Derived.Test.YtegbbkgmiklhcaaGreatDoorOCloM
namespace Go.Proofs.YtegbbkgmiklhcaaGreatDoor
open Go.RowKit
set_option maxRecDepth 100000
theorem zfk (w:World) (k K:Int) (hk:(k == K)=false) (ao:Option Addr) (n c:Nat) (fv:Value) :
  Calls Tryz.prog 115 #[.agg #[.int .i64 k,.slice ao n c],.int .i64 K,fv] w fun e w'=>e = .returned (.int .i64 2)∧w.grownBy w' none:=by
 have hk2:¬ k=K:=by simpa using hk
 go_enter Tryz.func115,Tryz.ntmps115
 go_wp2
 go_ret
 exact ⟨rfl,zai (zab _ _) _⟩
set_option maxHeartbeats 2000000 in
theorem zny (u w:World) (gu:u.grownBy w none) (ao:Option Addr) (c:Nat) (d:List UInt8) (hb:Bts u ao c d) (hd:d.length≤1000000) (vb:Nat) (K:Int) (r:Int × List UInt8) (R:World→Prop) (hR:∀ a b,R a→a.grownBy b none→R b)
  (hf:∀ V rb bc,u.grownBy V none→w.grownBy V none→w.heap.size<rb→Rd V rb d 0→Blk V w.heap.size 42 bc→Calls Tryz.prog 116 #[.pointer (some ⟨rb,0,none⟩),.pointer (some ⟨vb,0,none⟩)] V fun e w'=>zko u w' K r (fun V'=>R V'∧Blk V' w.heap.size 42 bc) e) :
  Calls Tryz.prog 115 #[.agg #[.int .i64 K,.slice ao d.length c],.int .i64 K,.func (.func 116) #[] #[.pointer (some ⟨vb,0,none⟩)]] w fun e w'=>e = .returned (.int .i64 (if r=(0,d) then 0 else 11))∧R w'∧u.grownBy w' none:=by
 obtain ⟨Y,hY⟩:∃ y:Int,y=(if r=(0,d) then 0 else 11):=⟨_,rfl⟩
 rw[← hY]
 have HY:=hide hY
 clear hY
 obtain ⟨n,hn⟩:∃ n,n=d.length:=⟨_,rfl⟩
 obtain ⟨W0,hW0,hB0,g0⟩:∃ W1,W1=w.alloc (.cells #[.int .i64 K,.slice ao n c] 42)∧Blk W1 w.heap.size 42 [.int .i64 K,.slice ao n c]∧w.grownBy W1 none:=zah w _ _
 have cn:=ze5 W0 ao c d (hb.kept (tn gu g0) (fun _ e=>by cases e)) (by omega)
 have c0:=hB0.cell 0
 have c1:=hB0.cell 1
 simp only[List.getElem?_cons_zero,List.getElem?_cons_succ] at c0 c1
 rw[← hn] at cn ⊢
 obtain ⟨HN,HW0,HF,HR,HB,HB0⟩:=zh6 hn hW0 hf hR hb hB0
 obtain ⟨HGU,HG0⟩:=zh2 gu g0
 clear hn hW0 hf hR hb hB0 gu g0
 go_enter Tryz.func115,Tryz.ntmps115
 go_wp2_with (rw[← uh HW0])
 refine cn.mono ?_
 rintro e w1 ⟨rb,rfl,hrb,hRd,g1⟩
 have hws:w.heap.size<W0.heap.size:=(uh HB0).lt
 have cf:=uh HF w1 rb _ (tn (tn (uh HGU) (uh HG0)) g1) (tn (uh HG0) g1) (by omega) hRd ((uh HB0).kept g1 (by simp))
 clear cn hRd g1 c0 c1
 go_wp2_with fail
 refine cf.mono ?_
 rintro e w2 ⟨v2,rfl,⟨a2,c2,rfl,hb2⟩,⟨hR2,hK2⟩,g2⟩
 obtain ⟨n2,hn2⟩:∃ n,n=r.2.length:=⟨_,rfl⟩
 obtain ⟨x,hx⟩:∃ x:Int,x=r.1:=⟨_,rfl⟩
 rw[← hn2,← hx]
 obtain ⟨KK,hKK⟩:∃ k:Int,k=(if x=0 then K else 0):=⟨_,rfl⟩
 rw[← hKK]
 obtain ⟨W3,hW3,hB3,g3⟩:∃ W1,W1=w2.alloc (.cells #[.int .i64 KK,.slice a2 n2 c2] 42)∧Blk W1 w2.heap.size 42 [.int .i64 KK,.slice a2 n2 c2]∧w2.grownBy W1 none:=zah w2 _ _
 have hK3:=hK2.kept g3 (by simp)
 have d0:=hK3.cell 0
 have d1:=hK3.cell 1
 have f0:=hB3.cell 0
 have f1:=hB3.cell 1
 simp only[List.getElem?_cons_zero,List.getElem?_cons_succ] at d0 d1 f0 f1
 have HW3:=hide hW3
 have hb3:=hb2.kept g3 (fun _ e=>by cases e)
 have G3:=tn g2 g3
 have hR3:=uh HR w2 W3 hR2 g3
 by_cases hx0:x=0
 ·have hKe:KK=K:=by rw[hKK,if_pos hx0]
  have hbd:Bts W3 ao c d:=(uh HB).kept G3 (fun _ e=>by cases e)
  have cs:=zgt W3 KK K a2 ao c2 c r.2 d hb3 hbd
  rw[← hn2,← uh HN] at cs
  obtain ⟨B,hB⟩:∃ B,B=decide (KK=K∧r.2=d):=⟨_,rfl⟩
  rw[← hB] at cs
  have hfin:Y=(if B=true then 0 else 11):=by
   rw[hB,uh HY]
   by_cases hq:r.2=d
   ·rw[if_pos (show r=(0,d) by rw[← hq,← hx0,hx]),if_pos (by simp[hKe,hq])]
   ·rw[if_neg (show ¬ r=(0,d) from fun e=>hq (by rw[e])),if_neg (by simp[hq])]
  obtain ⟨HFN,HR3⟩:=zh2 hfin hR3
  clear hKe hbd hB hfin hb2 hb3 hR2 hK2 hK3 hB3 hW3 hn2 hx hKK hR3 cf g2 g3
  subst hx0
  cases B
  ·go_wp2_with (first
    | (go_at_call 19;refine cs.mono ?_;rintro e w4 ⟨rfl,g4⟩;clear cs)
    | (rw[← uh HW3]))
   go_ret
   rw[uh HFN]
   exact ⟨rfl,uh HR _ _ (uh HR3) g4,tn G3 g4⟩
  ·go_wp2_with (first
    | (go_at_call 19;refine cs.mono ?_;rintro e w4 ⟨rfl,g4⟩;clear cs)
    | (rw[← uh HW3]))
   go_ret
   rw[uh HFN]
   exact ⟨rfl,uh HR _ _ (uh HR3) g4,tn G3 g4⟩
 ·have hx1:(x == 0)=false:=by simpa using hx0
  have hfin:Y=11:=by rw[uh HY];exact if_neg (fun e=>hx0 (by rw[hx,e]))
  obtain ⟨HFN,HR3⟩:=zh2 hfin hR3
  clear hfin hb2 hb3 hR2 hK2 hK3 hB3 hW3 hn2 hx hKK hR3 cf g2 g3
  go_wp2_with (rw[← uh HW3])
  go_ret
  rw[uh HFN]
  first
   | exact ⟨rfl,uh HR3,G3⟩
   | (rw[← uh HW3];exact ⟨rfl,uh HR3,G3⟩)
set_option maxHeartbeats 2000000 in
theorem znz (u w:World) (gu:u.grownBy w none) (ao:Option Addr) (c:Nat) (d:List UInt8) (hb:Bts u ao c d) (hd:d.length≤1000000) (vb:Nat) (K:Int) (r:Int × List UInt8) (R:World→Prop) (hR:∀ a b,R a→a.grownBy b none→R b)
  (hf:∀ V rb bc,u.grownBy V none→w.grownBy V none→w.heap.size<rb→Rd V rb d 0→Blk V w.heap.size 42 bc→Calls Tryz.prog 119 #[.pointer (some ⟨rb,0,none⟩),.pointer (some ⟨vb,0,none⟩)] V fun e w'=>zko u w' K r (fun V'=>R V'∧Blk V' w.heap.size 42 bc) e) :
  Calls Tryz.prog 115 #[.agg #[.int .i64 K,.slice ao d.length c],.int .i64 K,.func (.func 119) #[] #[.pointer (some ⟨vb,0,none⟩)]] w fun e w'=>e = .returned (.int .i64 (if r=(0,d) then 0 else 11))∧R w'∧u.grownBy w' none:=by
 obtain ⟨Y,hY⟩:∃ y:Int,y=(if r=(0,d) then 0 else 11):=⟨_,rfl⟩
 rw[← hY]
 have HY:=hide hY
 clear hY
 obtain ⟨n,hn⟩:∃ n,n=d.length:=⟨_,rfl⟩
 obtain ⟨W0,hW0,hB0,g0⟩:∃ W1,W1=w.alloc (.cells #[.int .i64 K,.slice ao n c] 42)∧Blk W1 w.heap.size 42 [.int .i64 K,.slice ao n c]∧w.grownBy W1 none:=zah w _ _
 have cn:=ze5 W0 ao c d (hb.kept (tn gu g0) (fun _ e=>by cases e)) (by omega)
 have c0:=hB0.cell 0
 have c1:=hB0.cell 1
 simp only[List.getElem?_cons_zero,List.getElem?_cons_succ] at c0 c1
 rw[← hn] at cn ⊢
 obtain ⟨HN,HW0,HF,HR,HB,HB0⟩:=zh6 hn hW0 hf hR hb hB0
 obtain ⟨HGU,HG0⟩:=zh2 gu g0
 clear hn hW0 hf hR hb hB0 gu g0
 go_enter Tryz.func115,Tryz.ntmps115
 go_wp2_with (rw[← uh HW0])
 refine cn.mono ?_
 rintro e w1 ⟨rb,rfl,hrb,hRd,g1⟩
 have hws:w.heap.size<W0.heap.size:=(uh HB0).lt
 have cf:=uh HF w1 rb _ (tn (tn (uh HGU) (uh HG0)) g1) (tn (uh HG0) g1) (by omega) hRd ((uh HB0).kept g1 (by simp))
 clear cn hRd g1 c0 c1
 go_wp2_with fail
 refine cf.mono ?_
 rintro e w2 ⟨v2,rfl,⟨a2,c2,rfl,hb2⟩,⟨hR2,hK2⟩,g2⟩
 obtain ⟨n2,hn2⟩:∃ n,n=r.2.length:=⟨_,rfl⟩
 obtain ⟨x,hx⟩:∃ x:Int,x=r.1:=⟨_,rfl⟩
 rw[← hn2,← hx]
 obtain ⟨KK,hKK⟩:∃ k:Int,k=(if x=0 then K else 0):=⟨_,rfl⟩
 rw[← hKK]
 obtain ⟨W3,hW3,hB3,g3⟩:∃ W1,W1=w2.alloc (.cells #[.int .i64 KK,.slice a2 n2 c2] 42)∧Blk W1 w2.heap.size 42 [.int .i64 KK,.slice a2 n2 c2]∧w2.grownBy W1 none:=zah w2 _ _
 have hK3:=hK2.kept g3 (by simp)
 have d0:=hK3.cell 0
 have d1:=hK3.cell 1
 have f0:=hB3.cell 0
 have f1:=hB3.cell 1
 simp only[List.getElem?_cons_zero,List.getElem?_cons_succ] at d0 d1 f0 f1
 have HW3:=hide hW3
 have hb3:=hb2.kept g3 (fun _ e=>by cases e)
 have G3:=tn g2 g3
 have hR3:=uh HR w2 W3 hR2 g3
 by_cases hx0:x=0
 ·have hKe:KK=K:=by rw[hKK,if_pos hx0]
  have hbd:Bts W3 ao c d:=(uh HB).kept G3 (fun _ e=>by cases e)
  have cs:=zgt W3 KK K a2 ao c2 c r.2 d hb3 hbd
  rw[← hn2,← uh HN] at cs
  obtain ⟨B,hB⟩:∃ B,B=decide (KK=K∧r.2=d):=⟨_,rfl⟩
  rw[← hB] at cs
  have hfin:Y=(if B=true then 0 else 11):=by
   rw[hB,uh HY]
   by_cases hq:r.2=d
   ·rw[if_pos (show r=(0,d) by rw[← hq,← hx0,hx]),if_pos (by simp[hKe,hq])]
   ·rw[if_neg (show ¬ r=(0,d) from fun e=>hq (by rw[e])),if_neg (by simp[hq])]
  obtain ⟨HFN,HR3⟩:=zh2 hfin hR3
  clear hKe hbd hB hfin hb2 hb3 hR2 hK2 hK3 hB3 hW3 hn2 hx hKK hR3 cf g2 g3
  subst hx0
  cases B
  ·go_wp2_with (first
    | (go_at_call 19;refine cs.mono ?_;rintro e w4 ⟨rfl,g4⟩;clear cs)
    | (rw[← uh HW3]))
   go_ret
   rw[uh HFN]
   exact ⟨rfl,uh HR _ _ (uh HR3) g4,tn G3 g4⟩
  ·go_wp2_with (first
    | (go_at_call 19;refine cs.mono ?_;rintro e w4 ⟨rfl,g4⟩;clear cs)
    | (rw[← uh HW3]))
   go_ret
   rw[uh HFN]
   exact ⟨rfl,uh HR _ _ (uh HR3) g4,tn G3 g4⟩
 ·have hx1:(x == 0)=false:=by simpa using hx0
  have hfin:Y=11:=by rw[uh HY];exact if_neg (fun e=>hx0 (by rw[hx,e]))
  obtain ⟨HFN,HR3⟩:=zh2 hfin hR3
  clear hfin hb2 hb3 hR2 hK2 hK3 hB3 hW3 hn2 hx hKK hR3 cf g2 g3
  go_wp2_with (rw[← uh HW3])
  go_ret
  rw[uh HFN]
  first
   | exact ⟨rfl,uh HR3,G3⟩
   | (rw[← uh HW3];exact ⟨rfl,uh HR3,G3⟩)
set_option maxHeartbeats 2000000 in
theorem zn0 (u w:World) (gu:u.grownBy w none) (ao:Option Addr) (c:Nat) (d:List UInt8) (hb:Bts u ao c d) (hd:d.length≤1000000) (vb:Nat) (K:Int) (r:Int × List UInt8) (R:World→Prop) (hR:∀ a b,R a→a.grownBy b none→R b)
  (hf:∀ V rb bc,u.grownBy V none→w.grownBy V none→w.heap.size<rb→Rd V rb d 0→Blk V w.heap.size 42 bc→Calls Tryz.prog 122 #[.pointer (some ⟨rb,0,none⟩),.pointer (some ⟨vb,0,none⟩)] V fun e w'=>zko u w' K r (fun V'=>R V'∧Blk V' w.heap.size 42 bc) e) :
  Calls Tryz.prog 115 #[.agg #[.int .i64 K,.slice ao d.length c],.int .i64 K,.func (.func 122) #[] #[.pointer (some ⟨vb,0,none⟩)]] w fun e w'=>e = .returned (.int .i64 (if r=(0,d) then 0 else 11))∧R w'∧u.grownBy w' none:=by
 obtain ⟨Y,hY⟩:∃ y:Int,y=(if r=(0,d) then 0 else 11):=⟨_,rfl⟩
 rw[← hY]
 have HY:=hide hY
 clear hY
 obtain ⟨n,hn⟩:∃ n,n=d.length:=⟨_,rfl⟩
 obtain ⟨W0,hW0,hB0,g0⟩:∃ W1,W1=w.alloc (.cells #[.int .i64 K,.slice ao n c] 42)∧Blk W1 w.heap.size 42 [.int .i64 K,.slice ao n c]∧w.grownBy W1 none:=zah w _ _
 have cn:=ze5 W0 ao c d (hb.kept (tn gu g0) (fun _ e=>by cases e)) (by omega)
 have c0:=hB0.cell 0
 have c1:=hB0.cell 1
 simp only[List.getElem?_cons_zero,List.getElem?_cons_succ] at c0 c1
 rw[← hn] at cn ⊢
 obtain ⟨HN,HW0,HF,HR,HB,HB0⟩:=zh6 hn hW0 hf hR hb hB0
 obtain ⟨HGU,HG0⟩:=zh2 gu g0
 clear hn hW0 hf hR hb hB0 gu g0
 go_enter Tryz.func115,Tryz.ntmps115
 go_wp2_with (rw[← uh HW0])
 refine cn.mono ?_
 rintro e w1 ⟨rb,rfl,hrb,hRd,g1⟩
 have hws:w.heap.size<W0.heap.size:=(uh HB0).lt
 have cf:=uh HF w1 rb _ (tn (tn (uh HGU) (uh HG0)) g1) (tn (uh HG0) g1) (by omega) hRd ((uh HB0).kept g1 (by simp))
 clear cn hRd g1 c0 c1
 go_wp2_with fail
 refine cf.mono ?_
 rintro e w2 ⟨v2,rfl,⟨a2,c2,rfl,hb2⟩,⟨hR2,hK2⟩,g2⟩
 obtain ⟨n2,hn2⟩:∃ n,n=r.2.length:=⟨_,rfl⟩
 obtain ⟨x,hx⟩:∃ x:Int,x=r.1:=⟨_,rfl⟩
 rw[← hn2,← hx]
 obtain ⟨KK,hKK⟩:∃ k:Int,k=(if x=0 then K else 0):=⟨_,rfl⟩
 rw[← hKK]
 obtain ⟨W3,hW3,hB3,g3⟩:∃ W1,W1=w2.alloc (.cells #[.int .i64 KK,.slice a2 n2 c2] 42)∧Blk W1 w2.heap.size 42 [.int .i64 KK,.slice a2 n2 c2]∧w2.grownBy W1 none:=zah w2 _ _
 have hK3:=hK2.kept g3 (by simp)
 have d0:=hK3.cell 0
 have d1:=hK3.cell 1
 have f0:=hB3.cell 0
 have f1:=hB3.cell 1
 simp only[List.getElem?_cons_zero,List.getElem?_cons_succ] at d0 d1 f0 f1
 have HW3:=hide hW3
 have hb3:=hb2.kept g3 (fun _ e=>by cases e)
 have G3:=tn g2 g3
 have hR3:=uh HR w2 W3 hR2 g3
 by_cases hx0:x=0
 ·have hKe:KK=K:=by rw[hKK,if_pos hx0]
  have hbd:Bts W3 ao c d:=(uh HB).kept G3 (fun _ e=>by cases e)
  have cs:=zgt W3 KK K a2 ao c2 c r.2 d hb3 hbd
  rw[← hn2,← uh HN] at cs
  obtain ⟨B,hB⟩:∃ B,B=decide (KK=K∧r.2=d):=⟨_,rfl⟩
  rw[← hB] at cs
  have hfin:Y=(if B=true then 0 else 11):=by
   rw[hB,uh HY]
   by_cases hq:r.2=d
   ·rw[if_pos (show r=(0,d) by rw[← hq,← hx0,hx]),if_pos (by simp[hKe,hq])]
   ·rw[if_neg (show ¬ r=(0,d) from fun e=>hq (by rw[e])),if_neg (by simp[hq])]
  obtain ⟨HFN,HR3⟩:=zh2 hfin hR3
  clear hKe hbd hB hfin hb2 hb3 hR2 hK2 hK3 hB3 hW3 hn2 hx hKK hR3 cf g2 g3
  subst hx0
  cases B
  ·go_wp2_with (first
    | (go_at_call 19;refine cs.mono ?_;rintro e w4 ⟨rfl,g4⟩;clear cs)
    | (rw[← uh HW3]))
   go_ret
   rw[uh HFN]
   exact ⟨rfl,uh HR _ _ (uh HR3) g4,tn G3 g4⟩
  ·go_wp2_with (first
    | (go_at_call 19;refine cs.mono ?_;rintro e w4 ⟨rfl,g4⟩;clear cs)
    | (rw[← uh HW3]))
   go_ret
   rw[uh HFN]
   exact ⟨rfl,uh HR _ _ (uh HR3) g4,tn G3 g4⟩
 ·have hx1:(x == 0)=false:=by simpa using hx0
  have hfin:Y=11:=by rw[uh HY];exact if_neg (fun e=>hx0 (by rw[hx,e]))
  obtain ⟨HFN,HR3⟩:=zh2 hfin hR3
  clear hfin hb2 hb3 hR2 hK2 hK3 hB3 hW3 hn2 hx hKK hR3 cf g2 g3
  go_wp2_with (rw[← uh HW3])
  go_ret
  rw[uh HFN]
  first
   | exact ⟨rfl,uh HR3,G3⟩
   | (rw[← uh HW3];exact ⟨rfl,uh HR3,G3⟩)
def telT (k:Int) (d:List UInt8):Int × List EntL:=if k=2 then (if zbr (zb6 d)=(0,d) then (0,zb6 d) else (11,[])) else (2,[])
def zdz:ChgL:=⟨List.replicate 32 0,[],0,[],[]⟩
def zen:MrkL:=⟨List.replicate 32 0,[],[]⟩
def telC (k:Int) (d:List UInt8):Int × ChgL:=if k=3 then (if zc6 (zbi d)=(0,d) then (0,zbi d) else (11,zdz)) else (2,zdz)
def telM (k:Int) (d:List UInt8):Int × MrkL:=if k=4 then (if zdn (zb2 d)=(0,d) then (0,zb2 d) else (11,zen)) else (2,zen)
set_option maxHeartbeats 2000000 in
theorem zkq (w:World) (k:Int) (ao:Option Addr) (c:Nat) (d:List UInt8) (hb:Bts w ao c d) (hd:d.length≤100000) :
  Calls Tryz.prog 80 #[.agg #[.int .i64 k,.slice ao d.length c]] w fun e w'=>∃ v y,e = .returned (.tuple #[v,.int .i64 y])∧y=(telT k d).1∧w'.ownsRow w.heap.size 154 34 v (telT k d).2.length ((telT k d).2.flatMap enC)∧w.grownBy w' none:=by
 obtain ⟨n,hn⟩:∃ n,n=d.length:=⟨_,rfl⟩
 obtain ⟨W0,hW0,hB0,g0⟩:∃ W1,W1=w.alloc (.cells #[.int .i64 k,.slice ao n c] 42)∧Blk W1 w.heap.size 42 [.int .i64 k,.slice ao n c]∧w.grownBy W1 none:=zah w _ _
 obtain ⟨W1,hW1,hB1,g1⟩:∃ W1,W1=W0.alloc (.cells #[.slice none 0 0] 150)∧Blk W1 W0.heap.size 150 [.slice none 0 0]∧W0.grownBy W1 none:=zah W0 _ _
 have hs0:W0.heap.size=w.heap.size+1:=by rw[hW0];simp
 rw[hs0] at hB1
 have hBo:=hB0.kept g1 (by simp)
 have c0:=hBo.cell 0
 have c1:=hBo.cell 1
 simp only[List.getElem?_cons_zero,List.getElem?_cons_succ] at c0 c1
 have G1:=tn g0 g1
 have hs1:W1.heap.size=w.heap.size+2:=by rw[hW1,hW0];simp
 have hW:W1=(w.alloc (.cells #[.int .i64 k,.slice ao n c] 42)).alloc (.cells #[.slice none 0 0] 150):=by rw[hW1,hW0]
 have HW:=hide hW
 by_cases hk:k=2
 ·subst hk
  have cf:=zny w W1 G1 ao c d hb (by omega) (w.heap.size+1) 2 (zbr (zb6 d)) (zl5 w (w.heap.size+1) (zb6 d)) (fun a b h g=>h.none g)
   (fun V rb bc gu gw hrb hRd hbk=>znv w V rb (w.heap.size+1) d (by omega) _ gu (Nat.le_succ _) (by omega) (by omega) hRd (hB1.kept gw (by simp)) W1.heap.size bc hbk (by omega) (by omega))
  rw[← hn] at cf
  rw[← hn]
  have hT:telT 2 d=(if zbr (zb6 d)=(0,d) then (0,zb6 d) else (11,[])):=by simp[telT]
  obtain ⟨t,ht⟩:∃ t,t=telT 2 d:=⟨_,rfl⟩
  rw[← ht] at hT ⊢
  obtain ⟨y,hy⟩:∃ y:Int,y=(if zbr (zb6 d)=(0,d) then 0 else 11):=⟨_,rfl⟩
  rw[← hy] at cf
  have hyc:(y=0∧t=(0,zb6 d))∨(y=11∧t=(11,[])):=by
   by_cases hq:zbr (zb6 d)=(0,d)
   ·left;rw[hT,hy,if_pos hq,if_pos hq];exact ⟨rfl,rfl⟩
   ·right;rw[hT,hy,if_neg hq,if_neg hq];exact ⟨rfl,rfl⟩
  clear hW1 hW0 hW hB0 hB1 hBo g0 g1 hT hy hn ht hs0 hs1 hb hd
  rcases hyc with ⟨rfl,ht⟩ | ⟨rfl,ht⟩
  ·have HT:=hide ht
   clear ht
   go_enter Tryz.func80,Tryz.ntmps80
   go_wp2_with (rw[← uh HW])
   refine cf.mono ?_
   rintro e w2 ⟨rfl,⟨v,hB2,ho2⟩,g2⟩
   have c2:=hB2.cell 0
   simp only[List.getElem?_cons_zero] at c2
   have HO:=hide ho2
   clear cf ho2 hB2 c0 c1
   go_wp2
   refine bodyPost_ret (v := .tuple #[v,.int .i64 0]) (by simp[results,Tryz.results80,go_sem]) rfl ?_
   exact ⟨v,0,rfl,by rw[uh HT],by rw[uh HT];exact uh HO,g2⟩
  ·have HT:=hide ht
   clear ht
   go_enter Tryz.func80,Tryz.ntmps80
   go_wp2_with (rw[← uh HW])
   refine cf.mono ?_
   rintro e w2 ⟨rfl,hkp,g2⟩
   clear cf hkp c0 c1
   go_wp2
   refine bodyPost_ret (v := .tuple #[.slice none 0 0,.int .i64 11]) (by simp[results,Tryz.results80,go_sem]) rfl ?_
   exact ⟨_,11,rfl,by rw[uh HT],by rw[uh HT];exact World.ownsRow_nil _ _ _ _,g2⟩
 ·have cf:=zfk W1 k 2 (by simpa using hk) ao n c (.func (.func 116) #[] #[.pointer (some ⟨w.heap.size+1,0,none⟩)])
  rw[← hn]
  have ht:telT k d=(2,[]):=by simp[telT,hk]
  have HT:=hide ht
  clear hW1 hW0 hW hB0 hB1 hBo g0 g1 hn ht hs0 hs1 hb hd
  go_enter Tryz.func80,Tryz.ntmps80
  go_wp2_with (rw[← uh HW])
  refine cf.mono ?_
  rintro e w2 ⟨rfl,g2⟩
  clear cf c0 c1
  go_wp2
  refine bodyPost_ret (v := .tuple #[.slice none 0 0,.int .i64 2]) (by simp[results,Tryz.results80,go_sem]) rfl ?_
  exact ⟨_,2,rfl,by rw[uh HT],by rw[uh HT];exact World.ownsRow_nil _ _ _ _,tn G1 g2⟩
end Go.Proofs.YtegbbkgmiklhcaaGreatDoor
