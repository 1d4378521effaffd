/- Lemmas. -/
import Derived.Test.YtegbbkgmiklhcaaGreatDoorRChangeOf
import Derived.Laws.AppendOwnNone
import Derived.Deep.AppendLies
import Derived.Deep.RegionHeld3
import Derived.Deep.DrawnRows
namespace Go.Proofs.YtegbbkgmiklhcaaGreatDoor
open Go.RowKit
set_option maxRecDepth 100000
theorem zp3 (d:List UInt8) (h:d.length≤16384):zap 2 d=(rtT 2 d).1:=by
 have h1:¬ 16384<d.length:=by omega
 by_cases hq:za4 (zbo d)=(0,d) <;> simp[zap,h1,rtT,zf6,hq,errO]
theorem zp4 (d:List UInt8) (h:d.length≤16384):zap 3 d=(rtC 3 d).1:=by
 have h1:¬ 16384<d.length:=by omega
 by_cases hq:zce (za8 d)=(0,d) <;> simp[zap,h1,rtC,zie,hq,errO]
theorem zp5 (d:List UInt8) (h:d.length≤16384):zap 4 d=(rtM 4 d).1:=by
 have h1:¬ 16384<d.length:=by omega
 by_cases hq:zcp (zbl d)=(0,d) <;> simp[zap,h1,rtM,zje,hq,errO]
set_option maxHeartbeats 2000000 in
theorem znx (w:World) (k:Int) (d:List UInt8) (hd:d.length≤100000):Calls Tryz.prog 25 #[.agg #[.int .i64 k,.string (str d)]] w fun e w'=>e = .returned (.int .i64 (zap k d))∧w.grownBy w' none:=by
 have hsz:=zaj d
 obtain ⟨W0,hW0,hB0,g0⟩:∃ W,W=w.alloc (.cells #[.int .i64 k,.string (str d)] 44)∧Blk W w.heap.size 44 [.int .i64 k,.string (str d)]∧w.grownBy W none:=zag w _ _
 have c0:=hB0.cell 0
 have c1:=hB0.cell 1
 simp only[List.getElem?_cons_zero,List.getElem?_cons_succ] at c0 c1
 have ct:=zkz W0 k d hd
 have cc:=ziz W0 k d hd
 have cm:=zky W0 k d hd
 obtain ⟨SD,hSD⟩:∃ S,S=str d:=⟨_,rfl⟩
 obtain ⟨n,hn⟩:∃ n,n=d.length:=⟨_,rfl⟩
 rw[← hSD,← hn] at hsz
 rw[← hSD] at c1 ct cc cm hW0 ⊢
 obtain ⟨Y,hY⟩:∃ y,y=zap k d:=⟨_,rfl⟩
 rw[← hY]
 obtain ⟨HW,HG⟩:=zh2 hW0 g0
 clear hW0 hB0 g0 hSD
 by_cases hk1:k<1
 ·have hr:Y=2:=by rw[hY];unfold zap;rw[if_pos (Or.inl hk1)]
  subst hr
  clear hY ct cc cm hn hd
  go_enter Tryz.func25,Tryz.ntmps25
  go_wp2_with (rw[← uh HW])
  go_ret
  exact ⟨rfl,uh HG⟩
 ·by_cases hk4:4<k
  ·have hr:Y=2:=by rw[hY];unfold zap;rw[if_pos (Or.inr hk4)]
   subst hr
   clear hY ct cc cm hn hd
   go_enter Tryz.func25,Tryz.ntmps25
   go_wp2_with (rw[← uh HW])
   go_ret
   exact ⟨rfl,uh HG⟩
  ·by_cases hbig:16384<d.length
   ·have hr:Y=3:=by rw[hY];unfold zap;rw[if_neg (by omega),if_pos hbig]
    have hb2:(16384:Int)<(n:Int):=by omega
    subst hr
    clear hY ct cc cm hn hd hbig
    go_enter Tryz.func25,Tryz.ntmps25
    go_wp2_with (rw[← uh HW])
    go_ret
    exact ⟨rfl,uh HG⟩
   ·have hb2:¬ (16384:Int)<(n:Int):=by omega
    have h5:k=1∨k=2∨k=3∨k=4:=by omega
    have hd6:d.length≤16384:=by omega
    rcases h5 with rfl | rfl | rfl | rfl
    ·have hr:Y=0:=by rw[hY];unfold zap;rw[if_neg (by omega),if_neg hbig];rfl
     subst hr
     clear hY ct cc cm hn hd hbig
     go_enter Tryz.func25,Tryz.ntmps25
     go_wp2_with (rw[← uh HW])
     go_ret
     exact ⟨rfl,uh HG⟩
    ·rw[zp3 d hd6] at hY
     have HY:=hide hY
     clear cc cm hn hd hbig hY hd6
     go_enter Tryz.func25,Tryz.ntmps25
     go_wp2_with (rw[← uh HW])
     refine ct.mono ?_
     rintro e w2 ⟨v,y,rfl,hy,_,g2⟩
     rw[← uh HY] at hy
     subst hy
     clear ct c0 c1
     go_wp2
     go_ret
     exact ⟨rfl,tn (uh HG) g2⟩
    ·rw[zp4 d hd6] at hY
     have HY:=hide hY
     clear ct cm hn hd hbig hY hd6
     go_enter Tryz.func25,Tryz.ntmps25
     go_wp2_with (rw[← uh HW])
     refine cc.mono ?_
     rintro e w2 ⟨po,pc,y,rfl,hy,_,g2⟩
     rw[← uh HY] at hy
     subst hy
     clear cc c0 c1
     go_wp2
     go_ret
     exact ⟨rfl,tn (uh HG) g2⟩
    ·rw[zp5 d hd6] at hY
     rw[← hY] at cm
     clear ct cc hn hd hbig hY hd6
     go_enter Tryz.func25,Tryz.ntmps25
     go_wp2_with (rw[← uh HW])
     refine cm.mono ?_
     rintro e w2 ⟨rfl,g2⟩
     clear cm c0 c1
     go_wp2
     go_ret
     exact ⟨rfl,tn (uh HG) g2⟩
set_option maxHeartbeats 2000000 in
theorem zny (w:World) (k:Int) (d:List UInt8):Calls Tryz.prog 25 #[.agg #[.int .i64 k,.string (str d)]] w fun e w'=>e = .returned (.int .i64 (zap k d))∧w.grownBy w' none:=by
 by_cases hd:d.length≤100000
 ·exact znx w k d hd
 have hsz:=zaj d
 obtain ⟨W0,hW0,hB0,g0⟩:∃ W,W=w.alloc (.cells #[.int .i64 k,.string (str d)] 44)∧Blk W w.heap.size 44 [.int .i64 k,.string (str d)]∧w.grownBy W none:=zag w _ _
 have c0:=hB0.cell 0
 have c1:=hB0.cell 1
 simp only[List.getElem?_cons_zero,List.getElem?_cons_succ] at c0 c1
 obtain ⟨SD,hSD⟩:∃ S,S=str d:=⟨_,rfl⟩
 obtain ⟨n,hn⟩:∃ n,n=d.length:=⟨_,rfl⟩
 rw[← hSD,← hn] at hsz
 rw[← hSD] at c1 hW0 ⊢
 rw[← hn] at hd
 obtain ⟨Y,hY⟩:∃ y,y=zap k d:=⟨_,rfl⟩
 rw[← hY]
 obtain ⟨HW,HG⟩:=zh2 hW0 g0
 clear hW0 hB0 g0 hSD
 by_cases hk1:k<1
 ·have hr:Y=2:=by rw[hY];unfold zap;rw[if_pos (Or.inl hk1)]
  subst hr
  clear hY hn hd
  go_enter Tryz.func25,Tryz.ntmps25
  go_wp2_with (rw[← uh HW])
  go_ret
  exact ⟨rfl,uh HG⟩
 ·by_cases hk4:4<k
  ·have hr:Y=2:=by rw[hY];unfold zap;rw[if_pos (Or.inr hk4)]
   subst hr
   clear hY hn hd
   go_enter Tryz.func25,Tryz.ntmps25
   go_wp2_with (rw[← uh HW])
   go_ret
   exact ⟨rfl,uh HG⟩
  ·have hr:Y=3:=by rw[hY];unfold zap;rw[if_neg (by omega),if_pos (by omega)]
   have hb2:(16384:Int)<(n:Int):=by omega
   subst hr
   clear hY hn hd
   go_enter Tryz.func25,Tryz.ntmps25
   go_wp2_with (rw[← uh HW])
   go_ret
   exact ⟨rfl,uh HG⟩
def stR (x:List UInt8):List Value:=[stv x]
theorem zi0 (L:List (List UInt8)):L.flatMap stR=L.map stv:=by induction L <;> simp_all [stR]
theorem zua (x:List UInt8):∀ u∈stR x,u.oneCell'=true:=by intro u hu;simp[stR] at hu;subst hu;rfl
theorem Stg.rws {w:World} {base:Nat} {v:Value} {L:List (List UInt8)} (h:Stg w base v L):∃ ao c,v = .slice ao L.length c∧Rws w 1 stR ao c L∧∀ ad,ao=some ad→base≤ad.block :=
 Rws.own stR (by rw[zi0];exact h) (fun _ _=>rfl)
theorem zfj {w:World} {ops:Array Oper} {rest:List Oper} {o:Oper} {a:Act} {Q:Exit→Act→World→Prop} (hgd:o.guard=none) (s x:Operand)
  (ho:o.op = .call { callee := .builtin .append,args := #[s,x],argTypes := #[67,67] })
  (base:Nat) (v:Value) (L M:List (List UInt8)) (hs:a.eval s=v) (hown:Stg w base v L) (xo:Option Addr) (m c:Nat) (hx:a.eval x = .slice xo m c) (hm:m=M.length) (hM:Rws w 1 stR xo c M) (hn:L.length+M.length≤1000000) (hbase:base≤w.heap.size)
  (h:∀ v' w',Stg w' base v' (L++M)→w.grownBy w' v.ownBlock→wpList Tryz.prog ops Q rest (a.put o.dst v') w'):wpList Tryz.prog ops Q (o::rest) a w:=by
 obtain ⟨i0,hi,hz0,hz1,hz2⟩:=info_parts zl2
 exact wpList_plain hgd fun _ hK=>ze1 s x 67 9 ho i0 (.string ⟨#[]⟩) 1 16 Tryz.underlying67 hi hz0 hz1 hz2 rfl (by decide) stR zua base v L M (fun _ _=>rfl) hs (by rw[zi0];exact hown) xo m c hx hm hM (by omega) (by omega) hbase
  (fun v' w' q1 q2=>hK _ _ (h v' w' (by rw[zi0] at q1;exact q1) q2))
end Go.Proofs.YtegbbkgmiklhcaaGreatDoor
