/- Lemmas. -/
import Derived.Test.YtegbbkgmiklhcaaGreatDoorNum
namespace Go.Proofs.YtegbbkgmiklhcaaGreatDoor
open Go.RowKit
set_option maxHeartbeats 400000 in
theorem zha (w:World) (rb:Nat) (ao:Option Addr) (c n k vb:Nat) (R:World→Prop) (hk:k≤n) (hn:n≤c) (h0:w.cell? ⟨rb,0,none⟩=some (.slice ao n c)) (h1:w.cell? ⟨rb,1,none⟩=some (.int .i64 0))
  (hf:Calls Tryz.prog 76 #[.slice ao k c,.pointer (some ⟨vb,0,none⟩)] w fun e w'=>e = .returned (.tuple #[])∧w'.cell? ⟨rb,0,none⟩=some (.slice ao n c)∧w'.frozen? ⟨rb,0,none⟩=false∧R w') :
  Calls Tryz.prog 59 #[.pointer (some ⟨rb,0,none⟩),.int .i64 k,.func (.func 76) #[] #[.pointer (some ⟨vb,0,none⟩)]] w fun e w'=>e = .returned (.tuple #[]) ∧
   ∃ w1,R w1∧w'=w1.setCell ⟨rb,0,none⟩ (.slice (cutA ao c k) (n - k) (c - k)):=by
 have s1:=fun W=>zi2 (P:=Tryz.prog) W 24 5 Tryz.underlying24 zau ao n c k (by omega)
 have s2:=fun W=>zd8 (P:=Tryz.prog) W 24 5 Tryz.underlying24 zau ao n c k (by omega)
 have H:=hf
 go_enter Tryz.func59,Tryz.ntmps59
 go_wp2_with fail
 refine (zdd _ _ h1).mono ?_
 rintro e w' ⟨rfl,rfl⟩
 go_wp2_with fail
 refine H.mono ?_
 rintro e w1 ⟨rfl,hc1,hf1,hR⟩
 clear h0 h1
 go_wp2
 go_end0
 exact ⟨rfl,w1,hR,rfl⟩
theorem zf4 (w:World) (ao:Option Addr) (c:Nat) (l:List UInt8) (hb:Bts w ao c l) (hr:l.length≤70368744177664) :
  Calls Tryz.prog 46 #[.slice ao l.length c,.int .i64 0] w fun e w'=>e = .returned (.slice (some ⟨w.heap.size,0,none⟩) l.length l.length) ∧
   Bts w' (some ⟨w.heap.size,0,none⟩) l.length l∧w.grownBy w' none∧Typ w' w.heap.size:=by
 refine (ze4 w ao c l 0 hb (by omega)).mono ?_
 rintro e w' ⟨rfl,h1,h2⟩
 obtain ⟨_,_,h4⟩:=Bts.own h1
 exact ⟨rfl,h4,h2,Typ.own h1⟩
theorem ze5 (w:World) (ao:Option Addr) (c:Nat) (l:List UInt8) (hb:Bts w ao c l) (hl:l.length≤70368744177664) :
  Calls Tryz.prog 36 #[.slice ao l.length c] w fun e w'=>∃ rb,e = .returned (.pointer (some ⟨rb,0,none⟩))∧w.heap.size≤rb∧Rd w' rb l 0∧w.grownBy w' none:=by
 go_enter Tryz.func36,Tryz.ntmps36
 go_wp2_with fail
 refine (zf4 _ _ _ _ hb hl).mono ?_
 rintro e w1 ⟨rfl,h1,h2,h3⟩
 go_wp2
 go_ret
 have g:=World.grownBy_alloc w1 (.cells #[.slice (some ⟨w.heap.size,0,none⟩) l.length l.length,.int .i64 0] 114) none
 have hsz:=h2.size
 have hlt:=h3.lt
 exact ⟨w1.heap.size,rfl,hsz,⟨some ⟨w.heap.size,0,none⟩,l.length,heap_alloc_new w1 _,h1.kept g (fun _ e=>by cases e),fun ad e=>by cases e;exact ⟨h3.kept g (by simp),by simp only;omega⟩⟩,zai h2 _⟩
theorem zle {w w1:World} {vb:Nat} {l:List UInt8} {c:Nat} (hv:vb<w.heap.size) (h4:Bts w1 (some ⟨w.heap.size,0,none⟩) c l) (h2:w.grownBy w1 none) (h3:Typ w1 w.heap.size) (v:Value) :
  Bts (w1.setCell ⟨vb,0,none⟩ v) (some ⟨w.heap.size,0,none⟩) c l∧w.grownBy (w1.setCell ⟨vb,0,none⟩ v) (some vb)∧Typ (w1.setCell ⟨vb,0,none⟩ v) w.heap.size:=by
 have g:=zdj w1 vb 0 v
 exact ⟨h4.kept g (fun x e=>by cases e;intro ad e;cases e;simp;omega),zac (zao _ h2) g (fun x e=>Or.inr e),h3.kept g (by simp;omega)⟩
set_option maxHeartbeats 400000 in
theorem znb (w:World) (ao:Option Addr) (c:Nat) (l:List UInt8) (vb:Nat) (v:Value) (hb:Bts w ao c l) (hl:l.length≤70368744177664) (hv:w.cell? ⟨vb,0,none⟩=some v) (hf:w.frozen? ⟨vb,0,none⟩=false) :
  Calls Tryz.prog 76 #[.slice ao l.length c,.pointer (some ⟨vb,0,none⟩)] w fun e w'=>e = .returned (.tuple #[]) ∧
   w'.cell? ⟨vb,0,none⟩=some (.slice (some ⟨w.heap.size,0,none⟩) l.length l.length)∧Bts w' (some ⟨w.heap.size,0,none⟩) l.length l∧w.grownBy w' (some vb)∧Typ w' w.heap.size:=by
 have hlt:=World.block_lt_of_cell? w _ hv
 simp only at hlt
 go_enter Tryz.func76,Tryz.ntmps76
 go_wp2_with fail
 refine (zf4 _ _ _ _ hb hl).mono ?_
 rintro e w1 ⟨rfl,h1,h2,h3⟩
 have hv1:=h2.cell hv (by simp)
 have hf1:w1.frozen? ⟨vb,0,none⟩=false:=by rw[(zds h2).frozen hlt];exact hf
 obtain ⟨p1,p2,p4⟩:=zle hlt h1 h2 h3 (.slice (some ⟨w.heap.size,0,none⟩) l.length l.length)
 have p3:=World.cell?_setCell_same w1 ⟨vb,0,none⟩ (.slice (some ⟨w.heap.size,0,none⟩) l.length l.length) hv1
 clear hb
 go_wp2
 go_end0
 exact ⟨rfl,p3,p1,p2,p4⟩
theorem zo9 (w:World) (rb:Nat) (l:List UInt8) (k n:Int) (hk:(k == 0)=false) (h:Rd w rb l k) :
  Calls Tryz.prog 53 #[.pointer (some ⟨rb,0,none⟩),.int .i64 n] w fun e w'=>e = .returned (.slice none 0 0)∧Rd w' rb l k∧w.grownBy w' none:=by
 have hR:=h.kept (World.grownBy_alloc w (.cells #[.slice none 0 0] 24) none) (Or.inl rfl)
 obtain ⟨ao,c,h1,h2,h3⟩:=h
 by_cases hn:0≤n
 all_goals
  go_enter Tryz.func53,Tryz.ntmps53
  go_wp2_with fail
  refine (zi5 _ _ _ _ _ hk (h1.alloc _).c1).mono ?_
  rintro e w' ⟨rfl,rfl⟩
  go_wp2
  go_ret
  exact ⟨rfl,hR,zai (zab _ _) _⟩
theorem zpa (w:World) (rb:Nat) (l:List UInt8) (n:Int) (hn:(l.length:Int)<n) (h:Rd w rb l 0) :
  Calls Tryz.prog 53 #[.pointer (some ⟨rb,0,none⟩),.int .i64 n] w fun e w'=>e = .returned (.slice none 0 0)∧Rd w' rb [] 10∧w.grownBy w' (some rb):=by
 obtain ⟨ao,c,h1,h2,h3⟩:=h
 have hlt:=h1.lt
 have hn0:0≤n:=by omega
 have hR:=(Rd.failed h1 10).kept (World.grownBy_alloc _ (.cells #[.slice none 0 0] 24) none) (Or.inl rfl)
 have hG:=zai (ze3 w rb 10) (.cells #[.slice none 0 0] 24)
 go_enter Tryz.func53,Tryz.ntmps53
 go_wp2_with fail
 refine (zi6 _ _ _ _ _ _ _ hn (h1.alloc _).c0 (h1.alloc _).c1 ((h1.alloc _).fz _) ((h1.alloc _).fz _)).mono ?_
 rintro e w' ⟨rfl,rfl⟩
 go_wp2
 go_ret
 exact ⟨rfl,hR,hG⟩
theorem zi7 {w w1:World} {rb:Nat} {ao:Option Addr} {c k:Nat} {l:List UInt8} {v:Value} (h1:RdAt w rb (.slice ao l.length c) 0) (h2:Bts w ao c l) (h3:Inb w ao rb) (hk:k≤l.length)
  (q1:w1.cell? ⟨w.heap.size,0,none⟩=some v) (q2:(w.alloc (.cells #[.slice none 0 0] 24)).grownBy w1 (some w.heap.size)) (q4:Bts w1 (some ⟨w.heap.size+1,0,none⟩) k (l.take k)) (q5:Typ w1 (w.heap.size+1)) :
  (w1.setCell ⟨rb,0,none⟩ (.slice (cutA ao c k) (l.length - k) (c - k))).cell? ⟨w.heap.size,0,none⟩=some v ∧
  Rd (w1.setCell ⟨rb,0,none⟩ (.slice (cutA ao c k) (l.length - k) (c - k))) rb (l.drop k) 0 ∧
  w.grownBy (w1.setCell ⟨rb,0,none⟩ (.slice (cutA ao c k) (l.length - k) (c - k))) (some rb) ∧
  NewB w (w1.setCell ⟨rb,0,none⟩ (.slice (cutA ao c k) (l.length - k) (c - k))) (.slice (some ⟨w.heap.size+1,0,none⟩) k k) (l.take k):=by
 have hlt:=h1.lt
 have g1:w.grownBy w1 none:=zac (World.grownBy_alloc w _ none) q2 (fun x e=>by cases e;exact Or.inl (Nat.le_refl _))
 have g2:=zdj w1 rb 0 (.slice (cutA ao c k) (l.length - k) (c - k))
 refine ⟨?_,Rd.read (h1.kept g1 (by simp)) (h2.kept g1 (fun _ e=>by cases e)) (h3.kept g1 (fun _ e=>by cases e)) hk,zac (zao _ g1) g2 (fun x e=>Or.inr e),⟨some ⟨w.heap.size+1,0,none⟩,k,?_,q4.kept g2 ?_,?_⟩⟩
 ·exact g2.cell q1 (by simp;omega)
 ·rw[List.length_take,Nat.min_eq_left hk]
 ·intro x e;cases e;intro ad e;cases e;simp;omega
 ·intro ad e;cases e;exact ⟨by simp,q5.kept g2 (by simp;omega)⟩
set_option maxHeartbeats 400000 in
theorem zpb (w:World) (rb:Nat) (l:List UInt8) (n:Int) (k:Nat) (hk:max n 0=(k:Int)) (hkl:k≤l.length) (hkb:k≤70368744177664) (h:Rd w rb l 0) :
  Calls Tryz.prog 53 #[.pointer (some ⟨rb,0,none⟩),.int .i64 n] w fun e w'=>∃ v,e = .returned v∧NewB w w' v (l.take k)∧Rd w' rb (l.drop k) 0∧w.grownBy w' (some rb):=by
 obtain ⟨ao,c,h1,h2,h3⟩:=h
 have hlt:=h1.lt
 have h1a:=h1.alloc (.cells #[.slice none 0 0] 24)
 have h2a:Bts (w.alloc (.cells #[.slice none 0 0] 24)) ao c (l.take k):=(h2.take k hkl).kept (World.grownBy_alloc w _ none) (fun _ e=>by cases e)
 have hc1:=znb _ ao c (l.take k) w.heap.size (.slice none 0 0) h2a (by simp;omega) (by simp) (by simp)
 rw[List.length_take,Nat.min_eq_left hkl] at hc1
 have hnx:=zha (w.alloc (.cells #[.slice none 0 0] 24)) rb ao c l.length k w.heap.size (fun w1=>w1.cell? ⟨w.heap.size,0,none⟩=some (.slice (some ⟨w.heap.size+1,0,none⟩) k k)∧(w.alloc (.cells #[.slice none 0 0] 24)).grownBy w1 (some w.heap.size) ∧
   Bts w1 (some ⟨w.heap.size+1,0,none⟩) k (l.take k)∧Typ w1 (w.heap.size+1)) hkl h2.fits h1a.c0 h1a.c1 (by
  refine hc1.mono ?_
  rintro e w1 ⟨rfl,q1,q4,q2,q5⟩
  have h1b:=h1a.kept q2 (by simp;omega)
  simp only[World.size_alloc] at q1 q4 q5
  exact ⟨rfl,h1b.c0,h1b.fz _,q1,q2,q4,q5⟩)
 clear hc1 h2a h1a
 by_cases hn:0≤n
 ·have hnk:n=(k:Int):=by omega
  subst hnk
  clear hk
  go_enter Tryz.func53,Tryz.ntmps53
  go_wp2_with fail
  refine hnx.mono ?_
  rintro e w2 ⟨rfl,w1,⟨q1,q2,q4,q5⟩,rfl⟩
  obtain ⟨p1,p2,p3,p4⟩:=zi7 h1 h2 h3 hkl q1 q2 q4 q5
  clear hnx h1 h2 h3 q1 q2 q4 q5
  go_wp2
  go_ret
  exact ⟨_,rfl,p4,p2,p3⟩
 ·have hnk:k=0:=by omega
  subst hnk
  clear hk
  go_enter Tryz.func53,Tryz.ntmps53
  go_wp2_with fail
  refine hnx.mono ?_
  rintro e w2 ⟨rfl,w1,⟨q1,q2,q4,q5⟩,rfl⟩
  obtain ⟨p1,p2,p3,p4⟩:=zi7 h1 h2 h3 hkl q1 q2 q4 q5
  simp only[Nat.sub_zero] at p1 p2 p3 p4
  clear hnx h1 h2 h3 q1 q2 q4 q5
  go_wp2
  go_ret
  exact ⟨_,rfl,p4,p2,p3⟩
theorem zc1 (w:World) (rb:Nat) (l:List UInt8) (k n:Int) (h:Rd w rb l k) :
  Calls Tryz.prog 37 #[.pointer (some ⟨rb,0,none⟩),.int .i64 n] w fun e w'=>e = .returned (.int .u64 ((numS l k n).1:Int))∧Rd w' rb (numS l k n).2.1 (numS l k n).2.2∧w.grownBy w' (some rb):=by
 by_cases hk:k=0
 ·subst hk
  by_cases hn:l.length<nb n
  ·have e1:numS l 0 n=(0,[],10):=by simp[numS,hn]
   rw[e1]
   exact zo7 w rb l n (by unfold nb at hn;omega) h
  ·have e1:numS l 0 n=(be (l.take (nb n)),l.drop (nb n),0):=by simp[numS,hn]
   rw[e1]
   exact zo8 w rb l n (nb n) (by unfold nb;omega) (by omega) h
 ·have e1:numS l k n=(0,l,k):=by simp[numS,hk]
  rw[e1]
  refine (zo6 w rb l k n (by simpa using hk) h).mono ?_
  rintro e w' ⟨rfl,h1,h2⟩
  exact ⟨rfl,h1,zao _ h2⟩
theorem zlf (w:World) (rb:Nat) (l:List UInt8) (k n:Int) (hl:l.length≤70368744177664) (h:Rd w rb l k) :
  Calls Tryz.prog 53 #[.pointer (some ⟨rb,0,none⟩),.int .i64 n] w fun e w'=>∃ v,e = .returned v∧NewB w w' v (rawS l k n).1∧Rd w' rb (rawS l k n).2.1 (rawS l k n).2.2∧w.grownBy w' (some rb):=by
 by_cases hk:k=0
 ·subst hk
  by_cases hn:l.length<n.toNat
  ·have e1:rawS l 0 n=([],[],10):=by simp[rawS,hn]
   rw[e1]
   refine (zpa w rb l n (by omega) h).mono ?_
   rintro e w' ⟨rfl,h1,h2⟩
   exact ⟨_,rfl,NewB.nil _ _,h1,h2⟩
  ·have e1:rawS l 0 n=(l.take n.toNat,l.drop n.toNat,0):=by simp[rawS,hn]
   rw[e1]
   exact zpb w rb l n n.toNat (by omega) (by omega) (by omega) h
 ·have e1:rawS l k n=([],l,k):=by simp[rawS,hk]
  rw[e1]
  refine (zo9 w rb l k n (by simpa using hk) h).mono ?_
  rintro e w' ⟨rfl,h1,h2⟩
  exact ⟨_,rfl,NewB.nil _ _,h1,zao _ h2⟩
theorem NewB.later {w0 w w' : World} {v:Value} {x:List UInt8} (h:NewB w w' v x) (hs:w0.heap.size≤w.heap.size):NewB w0 w' v x:=by
 obtain ⟨ao,c,h1,h2,h3⟩:=h
 exact ⟨ao,c,h1,h2,fun ad e=>⟨Nat.le_trans hs (h3 ad e).1,(h3 ad e).2⟩⟩
set_option maxHeartbeats 400000 in
theorem zgh (w:World) (rb:Nat) (l:List UInt8) (k:Int) (v:Nat) (l1:List UInt8) (k1:Int) (hn:numS l k 4=(v,l1,k1)) (hv:v≤65536) (hl:l1.length≤70368744177664) (h:Rd w rb l k) :
  Calls Tryz.prog 38 #[.pointer (some ⟨rb,0,none⟩)] w fun e w'=>∃ v',e = .returned v'∧NewB w w' v' (rawS l1 k1 v).1∧Rd w' rb (rawS l1 k1 v).2.1 (rawS l1 k1 v).2.2∧w.grownBy w' (some rb):=by
 have h1:=zc1 w rb l k 4 h
 rw[hn] at h1
 clear hn
 simp only at h1
 go_enter Tryz.func38,Tryz.ntmps38
 go_wp2_with fail
 refine h1.mono ?_
 rintro e w1 ⟨rfl,r1,g1⟩
 clear h1
 go_wp2_with fail
 refine (zlf _ _ _ _ _ hl r1).mono ?_
 rintro e w2 ⟨u,rfl,b2,r2,g2⟩
 go_wp2
 go_ret
 exact ⟨_,rfl,b2.later g1.size,r2,zac g1 g2 (fun x e=>Or.inr e)⟩
set_option maxHeartbeats 400000 in
theorem zlg (w:World) (rb:Nat) (l:List UInt8) (v:Nat) (l1:List UInt8) (hn:numS l 0 4=(v,l1,0)) (hv:65536<v) (h:Rd w rb l 0) :
  Calls Tryz.prog 38 #[.pointer (some ⟨rb,0,none⟩)] w fun e w'=>e = .returned (.slice none 0 0)∧Rd w' rb [] 3∧w.grownBy w' (some rb):=by
 have h1:=zc1 w rb l 0 4 h
 rw[hn] at h1
 clear hn
 simp only at h1
 go_enter Tryz.func38,Tryz.ntmps38
 go_wp2_with fail
 refine h1.mono ?_
 rintro e w1 ⟨rfl,⟨ao,c,r1,r2,r3⟩,g1⟩
 clear h1
 go_wp2_with fail
 refine (zi4 _ _ _ _ r1.c1 r1.c0 (r1.fz _) (r1.fz _)).mono ?_
 rintro e w2 ⟨rfl,rfl⟩
 have p1:=Rd.failed r1 3
 have p2:=zac g1 (ze3 w1 rb 3) (fun x e=>Or.inr e)
 clear r1 r2 r3 g1
 go_wp2
 go_ret
 exact ⟨rfl,p1,p2⟩
theorem zb0 (w:World) (rb:Nat) (l:List UInt8) (k:Int) (hl:l.length≤70368744177664) (h:Rd w rb l k) :
  Calls Tryz.prog 38 #[.pointer (some ⟨rb,0,none⟩)] w fun e w'=>∃ v,e = .returned v∧NewB w w' v (zak l k).1∧Rd w' rb (zak l k).2.1 (zak l k).2.2∧w.grownBy w' (some rb):=by
 have hnb:nb 4=4:=by decide
 by_cases hk:k=0
 ·subst hk
  by_cases h4:l.length<4
  ·have e1:numS l 0 4=(0,[],10):=by simp[numS,hnb,h4]
   have e2:zak l 0=rawS [] 10 ((0:Nat):Int):=by simp[zak,rawS,h4]
   rw[e2]
   exact zgh w rb l 0 0 [] 10 e1 (by omega) (by simp) h
  ·have e1:numS l 0 4=(be (l.take 4),l.drop 4,0):=by simp[numS,hnb,h4]
   by_cases hb:65536<be (l.take 4)
   ·have e2:zak l 0=([],[],3):=by simp[zak,h4,hb]
    rw[e2]
    refine (zlg w rb l _ _ e1 hb h).mono ?_
    rintro e w' ⟨rfl,h1,h2⟩
    exact ⟨_,rfl,NewB.nil _ _,h1,h2⟩
   ·have e2:zak l 0=rawS (l.drop 4) 0 ((be (l.take 4):Nat):Int):=by
     by_cases hr:l.length<4+be (l.take 4)
     ·simp only[zak,rawS,Int.toNat_natCast,List.length_drop,if_true,if_neg h4,if_neg hb,if_pos hr]
      rw[if_pos (by omega)]
     ·simp only[zak,rawS,Int.toNat_natCast,List.length_drop,if_true,if_neg h4,if_neg hb,if_neg hr]
      rw[if_neg (by omega)]
    rw[e2]
    exact zgh w rb l 0 _ _ 0 e1 (by omega) (by simp;omega) h
 ·have e1:numS l k 4=(0,l,k):=by simp[numS,hk]
  have e2:zak l k=rawS l k ((0:Nat):Int):=by simp[zak,rawS,hk]
  rw[e2]
  exact zgh w rb l k 0 l k e1 (by omega) hl h
end Go.Proofs.YtegbbkgmiklhcaaGreatDoor
