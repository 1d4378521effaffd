/- Lemmas. -/
import Derived.Test.YtoilcpdhhlcidaaGreatDoorRaw
import Derived.Laws.AppendOwnNone
namespace Go.Proofs.YtoilcpdhhlcidaaGreatDoor
open Go.RowKit
set_option maxRecDepth 100000
theorem zfq (w:World) (rb:Nat) (l:List UInt8) (k n:Int) (h:Rd w rb l k) :
  Calls Tryz.prog 91 #[.pointer (some ⟨rb,0,none⟩),.int .i64 n] w fun e w'=>e = .returned (.int .u64 ((numS l k n).1:Int))∧Rd w' rb (numS l k n).2.1 (numS l k n).2.2∧w.grownBy w' (some rb):=by
 by_cases hk:k=0
 ·subst hk
  by_cases hn:l.length<nb n
  ·have e1:numS l 0 n=(0,[],10):=by simp[numS,hn]
   rw[e1]
   exact zpx w rb l n (by unfold nb at hn;omega) h
  ·have e1:numS l 0 n=(be (l.take (nb n)),l.drop (nb n),0):=by simp[numS,hn]
   rw[e1]
   exact zpy w rb l n (nb n) (by unfold nb;omega) (by omega) h
 ·have e1:numS l k n=(0,l,k):=by simp[numS,hk]
  rw[e1]
  refine (zpw w rb l k n (by simpa using hk) h).mono ?_
  rintro e w' ⟨rfl,h1,h2⟩
  exact ⟨rfl,h1,zaq _ h2⟩
theorem zpd (w:World) (rb:Nat) (l:List UInt8) (k n:Int) (hl:l.length≤70368744177664) (h:Rd w rb l k) :
  Calls Tryz.prog 90 #[.pointer (some ⟨rb,0,none⟩),.int .i64 n] w fun e w'=>∃ v,e = .returned v∧NewB w w' v (rawS l k n).1∧Rd w' rb (rawS l k n).2.1 (rawS l k n).2.2∧w.grownBy w' (some rb):=by
 by_cases hk:k=0
 ·subst hk
  by_cases hn:l.length<n.toNat
  ·have e1:rawS l 0 n=([],[],10):=by simp[rawS,hn]
   rw[e1]
   refine (zp0 w rb l n (by omega) h).mono ?_
   rintro e w' ⟨rfl,h1,h2⟩
   exact ⟨_,rfl,NewB.nil _ _,h1,h2⟩
  ·have e1:rawS l 0 n=(l.take n.toNat,l.drop n.toNat,0):=by simp[rawS,hn]
   rw[e1]
   exact zp1 w rb l n n.toNat (by omega) (by omega) (by omega) h
 ·have e1:rawS l k n=([],l,k):=by simp[rawS,hk]
  rw[e1]
  refine (zpz w rb l k n (by simpa using hk) h).mono ?_
  rintro e w' ⟨rfl,h1,h2⟩
  exact ⟨_,rfl,NewB.nil _ _,h1,zaq _ h2⟩
theorem NewB.later {w0 w w' : World} {v:Value} {x:List UInt8} (h:NewB w w' v x) (hs:w0.heap.size≤w.heap.size):NewB w0 w' v x:=by
 obtain ⟨ao,c,h1,h2,h3⟩:=h
 exact ⟨ao,c,h1,h2,fun ad e=>⟨Nat.le_trans hs (h3 ad e).1,(h3 ad e).2⟩⟩
set_option maxHeartbeats 400000 in
theorem zhc (w:World) (rb:Nat) (l:List UInt8) (k:Int) (v:Nat) (l1:List UInt8) (k1:Int) (hn:numS l k 4=(v,l1,k1)) (hv:v≤65536) (hl:l1.length≤70368744177664) (h:Rd w rb l k) :
  Calls Tryz.prog 92 #[.pointer (some ⟨rb,0,none⟩)] w fun e w'=>∃ v',e = .returned v'∧NewB w w' v' (rawS l1 k1 v).1∧Rd w' rb (rawS l1 k1 v).2.1 (rawS l1 k1 v).2.2∧w.grownBy w' (some rb):=by
 have h1:=zfq w rb l k 4 h
 rw[hn] at h1
 clear hn
 simp only at h1
 go_enter Tryz.func92,Tryz.ntmps92
 go_wp2_with fail
 refine h1.mono ?_
 rintro e w1 ⟨rfl,r1,g1⟩
 clear h1
 go_wp2_with fail
 refine (zpd _ _ _ _ _ hl r1).mono ?_
 rintro e w2 ⟨u,rfl,b2,r2,g2⟩
 go_wp2
 go_ret
 exact ⟨_,rfl,b2.later g1.size,r2,zae g1 g2 (fun x e=>Or.inr e)⟩
set_option maxHeartbeats 400000 in
theorem zmi (w:World) (rb:Nat) (l:List UInt8) (v:Nat) (l1:List UInt8) (hn:numS l 0 4=(v,l1,0)) (hv:65536<v) (h:Rd w rb l 0) :
  Calls Tryz.prog 92 #[.pointer (some ⟨rb,0,none⟩)] w fun e w'=>e = .returned (.slice none 0 0)∧Rd w' rb [] 3∧w.grownBy w' (some rb):=by
 have h1:=zfq w rb l 0 4 h
 rw[hn] at h1
 clear hn
 simp only at h1
 go_enter Tryz.func92,Tryz.ntmps92
 go_wp2_with fail
 refine h1.mono ?_
 rintro e w1 ⟨rfl,⟨ao,c,r1,r2,r3⟩,g1⟩
 clear h1
 go_wp2_with fail
 refine (zj7 _ _ _ _ r1.c1 r1.c0 (r1.fz _) (r1.fz _)).mono ?_
 rintro e w2 ⟨rfl,rfl⟩
 have p1:=Rd.failed r1 3
 have p2:=zae g1 (zfe w1 rb 3) (fun x e=>Or.inr e)
 clear r1 r2 r3 g1
 go_wp2
 go_ret
 exact ⟨rfl,p1,p2⟩
theorem zkb (w:World) (rb:Nat) (l:List UInt8) (k:Int) (hl:l.length≤70368744177664) (h:Rd w rb l k) :
  Calls Tryz.prog 92 #[.pointer (some ⟨rb,0,none⟩)] w fun e w'=>∃ v,e = .returned v∧NewB w w' v (za3 l k).1∧Rd w' rb (za3 l k).2.1 (za3 l k).2.2∧w.grownBy w' (some rb):=by
 have hnb:nb 4=4:=by decide
 by_cases hk:k=0
 ·subst hk
  by_cases h4:l.length<4
  ·have e1:numS l 0 4=(0,[],10):=by simp[numS,hnb,h4]
   have e2:za3 l 0=rawS [] 10 ((0:Nat):Int):=by simp[za3,rawS,h4]
   rw[e2]
   exact zhc w rb l 0 0 [] 10 e1 (by omega) (by simp) h
  ·have e1:numS l 0 4=(be (l.take 4),l.drop 4,0):=by simp[numS,hnb,h4]
   by_cases hb:65536<be (l.take 4)
   ·have e2:za3 l 0=([],[],3):=by simp[za3,h4,hb]
    rw[e2]
    refine (zmi w rb l _ _ e1 hb h).mono ?_
    rintro e w' ⟨rfl,h1,h2⟩
    exact ⟨_,rfl,NewB.nil _ _,h1,h2⟩
   ·have e2:za3 l 0=rawS (l.drop 4) 0 ((be (l.take 4):Nat):Int):=by
     by_cases hr:l.length<4+be (l.take 4)
     ·simp only[za3,rawS,Int.toNat_natCast,List.length_drop,if_true,if_neg h4,if_neg hb,if_pos hr]
      rw[if_pos (by omega)]
     ·simp only[za3,rawS,Int.toNat_natCast,List.length_drop,if_true,if_neg h4,if_neg hb,if_neg hr]
      rw[if_neg (by omega)]
    rw[e2]
    exact zhc w rb l 0 _ _ 0 e1 (by omega) (by simp;omega) h
 ·have e1:numS l k 4=(0,l,k):=by simp[numS,hk]
  have e2:za3 l k=rawS l k ((0:Nat):Int):=by simp[za3,rawS,hk]
  rw[e2]
  exact zhc w rb l k 0 l k e1 (by omega) hl h
def doneS (l:List UInt8) (e:Int):Int:=if e=0 then (if l=[] then 0 else 11) else e
def lb (v n:Nat):List UInt8:=(List.range n).map fun i=>UInt8.ofNat (v / 256 ^ (n - 1 - i))
theorem zc3 (v n:Nat):(lb v n).length=n:=by simp[lb]
theorem zqz (v n k:Nat) (h:k<(lb v n).length):Value.int .u8 ((v:Int) / 2 ^ (8*(n - 1 - k)) % 256)=bv (lb v n)[k]:=by
 have e:(lb v n)[k]=UInt8.ofNat (v / 256 ^ (n - 1 - k)):=by simp[lb]
 unfold bv
 rw[e,UInt8.toNat_ofNat']
 congr 1
 rw[show (256:Nat)=2 ^ 8 from rfl,← Nat.pow_mul]
 rfl
set_option maxHeartbeats 400000 in
theorem zmj (w:World) (base:Nat) (own:Value) (xs:List UInt8) (v n:Nat) (hn:n≤8) (hown:w.ownsRow base 5 1 own xs.length (xs.map bv)) (hbase:base≤w.heap.size) (hlen:xs.length+8≤70368744177664) :
  Calls Tryz.prog 97 #[own,.int .u64 v,.int .i64 n] w fun e w'=>∃ v',e = .returned v'∧w'.ownsRow base 5 1 v' (xs++lb v n).length ((xs++lb v n).map bv)∧Below base w w':=by
 obtain ⟨i0,hi,hz0,hz1,hz2⟩:=info_parts zbm
 go_enter Tryz.func97,Tryz.ntmps97
 go_wp2
 go_loopw [0,9] (fun o i wr=>∃ k:Nat,k≤n∧i = .int .i64 k∧wr.ownsRow base 5 1 o (xs++(lb v n).take k).length ((xs++(lb v n).take k).map bv)∧Below base w wr) (fun _ i _=>n - (intOf i).toNat)
 case atStart=>exact ⟨0,Nat.zero_le _,rfl,by simpa using hown,Below.refl _ _⟩
 case round =>
  obtain ⟨k,hk,rfl,ho,hb⟩:=hrel
  by_cases hlt:k<n
  ·have hsz:=hb.size
   have hll:(xs++(lb v n).take k).length=xs.length+k:=by simp[zc3];omega
   obtain ⟨ys,hys⟩:∃ ys,ys=xs++(lb v n).take k:=⟨_,rfl⟩
   rw[← hys] at ho hll
   obtain ⟨HL,HY⟩:=zh2 hll hys
   clear hll hown hys
   go_wp2_with (at_builtin;refine wpList_append_own _ rfl _ _ 53 rfl base 5 i0 (.int .u8 0) 1 1 Tryz.underlying53 hi hz0 hz1 hz2 rfl (by decide) _ _ _ rfl (ho.alloc _) ⟨wr.heap.size,0,none⟩ 1 1 [.int .u8 ((v:Int) / 2 ^ (8*(n - 1 - k)) % 256)] rfl rfl ?c1 ?c2 ?c3 ?c4 ?c5 ?_)
   case c1 =>
    intro t x ht
    match t,ht with
    | 0,ht=>simp at ht;subst ht;simp[Addr.add]
   case c2=>intro x hx;simp at hx;subst hx;rfl
   case c3=>have:=uh HL;unfold maxLen;omega
   case c4=>have:=uh HL;omega
   case c5=>simp;omega
   intro v' w3 hown3 hg3 _
   have hb3:Below base w w3:=((hb.alloc (by omega) _).grown hg3 (by simp;omega) (fun x e=>(ho.lt x e).1))
   have hk2:k<(lb v n).length:=by rw[zc3];exact hlt
   have hy2:xs++(lb v n).take (k+1)=ys++[(lb v n)[k]]:=by rw[uh HY,zfd hk2];simp
   rw[zqz v n k hk2] at hown3
   have hown4:w3.ownsRow base 5 1 v' (xs++(lb v n).take (k+1)).length ((xs++(lb v n).take (k+1)).map bv):=by
    rw[hy2,List.map_append,List.length_append]
    exact hown3
   clear hown3
   clear hb ho hg3 hy2
   go_wp2
   go_roundw
   case rel=>exact ⟨k+1,by omega,by go_num,hown4,hb3⟩
   case measure=>simp[intOf];omega
  ·go_wp2
   go_ret
   have hkn:(lb v n).take k=lb v n:=List.take_of_length_le (by rw[zc3];omega)
   rw[hkn] at ho
   exact ⟨_,rfl,ho,hb⟩
set_option maxHeartbeats 400000 in
theorem zi9 (w:World) (base:Nat) (own:Value) (xs:List UInt8) (ao:Option Addr) (c:Nat) (x:List UInt8) (hown:w.ownsRow base 5 1 own xs.length (xs.map bv)) (hbase:base≤w.heap.size)
  (hx:∀ a,Below base w a→Bts a ao c x) (hlen:xs.length+8+x.length≤70368744177664) :
  Calls Tryz.prog 114 #[own,.slice ao x.length c] w fun e w'=>∃ v',e = .returned v'∧w'.ownsRow base 5 1 v' (xs++lb x.length 4++x).length ((xs++lb x.length 4++x).map bv)∧Below base w w':=by
 obtain ⟨i0,hi,hz0,hz1,hz2⟩:=info_parts zbm
 have h1:=zmj w base own xs x.length 4 (by omega) hown hbase (by omega)
 obtain ⟨ys,hys⟩:∃ ys,ys=xs++lb x.length 4:=⟨_,rfl⟩
 rw[← hys] at h1 ⊢
 have hyl:ys.length=xs.length+4:=by rw[hys];simp[zc3]
 have HL:=hide hyl
 clear hyl hys
 go_enter Tryz.func114,Tryz.ntmps114
 go_wp2_with fail
 refine h1.mono ?_
 rintro e w1 ⟨v1,rfl,ho1,hb1⟩
 clear h1 hown
 have hx1:=hx w1 hb1
 have hsz:=hb1.size
 cases ao with
 | none =>
   have hz:=hx1.zip rfl
   have hx0:x=[]:=List.eq_nil_of_length_eq_zero hz.1
   have hc0:=hz.2
   subst hx0 hc0
   clear hz
   go_wp2_with (at_builtin;refine wpList_append_own_none rfl _ _ 53 rfl base 5 i0 1 Tryz.underlying53 hi _ _ _ rfl ho1 rfl ?_)
   go_ret
   exact ⟨_,rfl,by simpa using ho1,hb1⟩
 | some ad =>
   go_wp2_with (at_builtin;refine wpList_append_own _ rfl _ _ 53 rfl base 5 i0 (.int .u8 0) 1 1 Tryz.underlying53 hi hz0 hz1 hz2 rfl (by decide) _ _ _ rfl ho1 ad x.length c (x.map bv) rfl ?c0 (hx1.news ad rfl) (zbx x) ?c3 ?c4 ?c5 ?_)
   case c0=>simp
   case c3=>have:=uh HL;unfold maxLen;omega
   case c4=>have:=uh HL;omega
   case c5=>omega
   intro v2 w2 ho2 hg2 _
   have hb2:Below base w w2:=hb1.grown hg2 (by omega) (fun x e=>(ho1.lt x e).1)
   rw[← List.map_append,← List.length_append] at ho2
   clear hx hx1 ho1 hg2 hb1
   go_wp2
   go_ret
   exact ⟨_,rfl,ho2,hb2⟩
def layS (x:List UInt8):List UInt8:=lb x.length 4++x
def layL (L:List (List UInt8)):List UInt8:=lb L.length 2++L.flatMap layS
set_option maxHeartbeats 400000 in
theorem zhd (w:World) (ao:Option Addr) (c:Nat) (l:List UInt8) (v:Nat) (n:Int) (hb:Bts w ao c l) (hl:l.length+16≤70368744177664) :
  Calls Tryz.prog 78 #[.slice ao l.length c,.int .u64 v,.int .i64 n] w fun e w'=>∃ v',e = .returned v'∧w'.ownsRow w.heap.size 5 1 v' (l++lb v (nb n)).length ((l++lb v (nb n)).map bv)∧w.grownBy w' none:=by
 have hn8:nb n≤8:=by unfold nb;omega
 have H:Hid (min (max n 0) 8=((nb n:Nat):Int)):=by unfold nb Hid;omega
 generalize nb n=k at *
 go_enter Tryz.func78,Tryz.ntmps78
 go_wp2_with fail
 refine (ze8 _ _).mono ?_
 rintro e w' ⟨rfl,rfl⟩
 rw[H.out]
 go_wp2_with fail
 refine (zff _ _ _ _ k hb (by omega)).mono ?_
 rintro e w1 ⟨rfl,h1,h2⟩
 have hsz:=h2.size
 clear hb H
 go_wp2_with fail
 refine (zmj _ _ _ l v k hn8 h1 hsz (by omega)).mono ?_
 rintro e w2 ⟨v2,rfl,h3,h4⟩
 clear h1
 go_wp2
 go_ret
 exact ⟨_,rfl,h3,zdc ((zdb h2).trans h4)⟩
theorem zp2 (w:World) (ao:Option Addr) (c:Nat) (l:List UInt8) (v:Nat) (n:Int) (hb:Bts w ao c l) (hl:l.length+16≤70368744177664) :
  Calls Tryz.prog 78 #[.slice ao l.length c,.int .u64 v,.int .i64 n] w fun e w'=>∃ v',e = .returned v'∧NewB w w' v' (l++lb v (nb n))∧w.grownBy w' none :=
 (zhd w ao c l v n hb hl).mono fun _ _ ⟨v',e,h,g⟩=>⟨v',e,NewB.own h,g⟩
set_option maxHeartbeats 400000 in
theorem zk1 (w:World) (ao bo:Option Addr) (c d:Nat) (l x:List UInt8) (hb:Bts w ao c l) (hx:Bts w bo d x) (hl:l.length+16+x.length≤70368744177664) :
  Calls Tryz.prog 99 #[.slice ao l.length c,.slice bo x.length d] w fun e w'=>∃ v',e = .returned v'∧w'.ownsRow w.heap.size 5 1 v' (l++layS x).length ((l++layS x).map bv)∧w.grownBy w' none:=by
 go_enter Tryz.func99,Tryz.ntmps99
 go_wp2_with fail
 rw[show (4:Int)+(x.length:Int)=((4+x.length:Nat):Int) from by omega]
 refine (zff _ _ _ _ (4+x.length) hb (by omega)).mono ?_
 rintro e w1 ⟨rfl,h1,h2⟩
 have hsz:=h2.size
 have hx1:∀ a,Below w.heap.size w1 a→Bts a bo d x:=fun a ha=>hx.below ((zdb h2).trans ha)
 clear hb hx
 go_wp2_with fail
 refine (zi9 _ _ _ l bo d x h1 hsz hx1 (by omega)).mono ?_
 rintro e w2 ⟨v2,rfl,h3,h4⟩
 clear h1 hx1
 go_wp2
 go_ret
 exact ⟨_,rfl,(by unfold layS;rw[← List.append_assoc];exact h3),zdc ((zdb h2).trans h4)⟩
theorem zdf (w:World) (ao bo:Option Addr) (c d:Nat) (l x:List UInt8) (hb:Bts w ao c l) (hx:Bts w bo d x) (hl:l.length+16+x.length≤70368744177664) :
  Calls Tryz.prog 99 #[.slice ao l.length c,.slice bo x.length d] w fun e w'=>∃ v',e = .returned v'∧NewB w w' v' (l++layS x)∧w.grownBy w' none :=
 (zk1 w ao bo c d l x hb hx hl).mono fun _ _ ⟨v',e,h,g⟩=>⟨v',e,NewB.own h,g⟩
end Go.Proofs.YtoilcpdhhlcidaaGreatDoor
