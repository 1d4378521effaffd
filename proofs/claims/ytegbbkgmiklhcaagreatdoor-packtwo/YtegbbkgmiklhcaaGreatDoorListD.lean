/- Lemmas. -/
import Derived.Test.YtegbbkgmiklhcaaGreatDoorSized
import Derived.Laws.AppendOwnNone
namespace Go.Proofs.YtegbbkgmiklhcaaGreatDoor
open Go.RowKit
set_option maxRecDepth 100000
def zd9 (l:List UInt8) (e:Int):Int:=if e=0 then (if l=[] then 0 else 11) else e
def lb (v n:Nat):List UInt8:=(List.range n).map fun i=>UInt8.ofNat (v / 256 ^ (n - 1 - i))
theorem zbp (v n:Nat):(lb v n).length=n:=by simp[lb]
theorem zqz (v n k:Nat) (h:k<(lb v n).length):Value.int .u8 ((v:Int) / 2 ^ (8*(n - 1 - k)) % 256)=bv (lb v n)[k]:=by
 have e:(lb v n)[k]=UInt8.ofNat (v / 256 ^ (n - 1 - k)):=by simp[lb]
 unfold bv
 rw[e,UInt8.toNat_ofNat']
 congr 1
 rw[show (256:Nat)=2 ^ 8 from rfl,← Nat.pow_mul]
 rfl
set_option maxHeartbeats 400000 in
theorem zln (w:World) (base:Nat) (own:Value) (xs:List UInt8) (v n:Nat) (hn:n≤8) (hown:w.ownsRow base 5 1 own xs.length (xs.map bv)) (hbase:base≤w.heap.size) (hlen:xs.length+8≤70368744177664) :
  Calls Tryz.prog 45 #[own,.int .u64 v,.int .i64 n] w fun e w'=>∃ v',e = .returned v'∧w'.ownsRow base 5 1 v' (xs++lb v n).length ((xs++lb v n).map bv)∧Below base w w':=by
 obtain ⟨i0,hi,hz0,hz1,hz2⟩:=info_parts zcz
 go_enter Tryz.func45,Tryz.ntmps45
 go_wp2
 go_loopw [0,9] (fun o i wr=>∃ k:Nat,k≤n∧i = .int .i64 k∧wr.ownsRow base 5 1 o (xs++(lb v n).take k).length ((xs++(lb v n).take k).map bv)∧Below base w wr) (fun _ i _=>n - (intOf i).toNat)
 case atStart=>exact ⟨0,Nat.zero_le _,rfl,by simpa using hown,Below.refl _ _⟩
 case round =>
  obtain ⟨k,hk,rfl,ho,hb⟩:=hrel
  by_cases hlt:k<n
  ·have hsz:=hb.size
   have hll:(xs++(lb v n).take k).length=xs.length+k:=by simp[zbp];omega
   obtain ⟨ys,hys⟩:∃ ys,ys=xs++(lb v n).take k:=⟨_,rfl⟩
   rw[← hys] at ho hll
   obtain ⟨HL,HY⟩:=zh2 hll hys
   clear hll hown hys
   go_wp2_with (at_builtin;refine wpList_append_own _ rfl _ _ 24 rfl base 5 i0 (.int .u8 0) 1 1 Tryz.underlying24 hi hz0 hz1 hz2 rfl (by decide) _ _ _ rfl (ho.alloc _) ⟨wr.heap.size,0,none⟩ 1 1 [.int .u8 ((v:Int) / 2 ^ (8*(n - 1 - k)) % 256)] rfl rfl ?c1 ?c2 ?c3 ?c4 ?c5 ?_)
   case c1 =>
    intro t x ht
    match t,ht with
    | 0,ht=>simp at ht;subst ht;simp[Addr.add]
   case c2=>intro x hx;simp at hx;subst hx;rfl
   case c3=>have:=uh HL;unfold maxLen;omega
   case c4=>have:=uh HL;omega
   case c5=>simp;omega
   intro v' w3 hown3 hg3 _
   have hb3:Below base w w3:=((hb.alloc (by omega) _).grown hg3 (by simp;omega) (fun x e=>(ho.lt x e).1))
   have hk2:k<(lb v n).length:=by rw[zbp];exact hlt
   have hy2:xs++(lb v n).take (k+1)=ys++[(lb v n)[k]]:=by rw[uh HY,ze2 hk2];simp
   rw[zqz v n k hk2] at hown3
   have hown4:w3.ownsRow base 5 1 v' (xs++(lb v n).take (k+1)).length ((xs++(lb v n).take (k+1)).map bv):=by
    rw[hy2,List.map_append,List.length_append]
    exact hown3
   clear hown3
   clear hb ho hg3 hy2
   go_wp2
   go_roundw
   case rel=>exact ⟨k+1,by omega,by go_num,hown4,hb3⟩
   case measure=>simp[intOf];omega
  ·go_wp2
   go_ret
   have hkn:(lb v n).take k=lb v n:=List.take_of_length_le (by rw[zbp];omega)
   rw[hkn] at ho
   exact ⟨_,rfl,ho,hb⟩
set_option maxHeartbeats 400000 in
theorem zh8 (w:World) (base:Nat) (own:Value) (xs:List UInt8) (ao:Option Addr) (c:Nat) (x:List UInt8) (hown:w.ownsRow base 5 1 own xs.length (xs.map bv)) (hbase:base≤w.heap.size)
  (hx:∀ a,Below base w a→Bts a ao c x) (hlen:xs.length+8+x.length≤70368744177664) :
  Calls Tryz.prog 70 #[own,.slice ao x.length c] w fun e w'=>∃ v',e = .returned v'∧w'.ownsRow base 5 1 v' (xs++lb x.length 4++x).length ((xs++lb x.length 4++x).map bv)∧Below base w w':=by
 obtain ⟨i0,hi,hz0,hz1,hz2⟩:=info_parts zcz
 have h1:=zln w base own xs x.length 4 (by omega) hown hbase (by omega)
 obtain ⟨ys,hys⟩:∃ ys,ys=xs++lb x.length 4:=⟨_,rfl⟩
 rw[← hys] at h1 ⊢
 have hyl:ys.length=xs.length+4:=by rw[hys];simp[zbp]
 have HL:=hide hyl
 clear hyl hys
 go_enter Tryz.func70,Tryz.ntmps70
 go_wp2_with fail
 refine h1.mono ?_
 rintro e w1 ⟨v1,rfl,ho1,hb1⟩
 clear h1 hown
 have hx1:=hx w1 hb1
 have hsz:=hb1.size
 cases ao with
 | none =>
  have hz:=hx1.zip rfl
  have hx0:x=[]:=List.eq_nil_of_length_eq_zero hz.1
  have hc0:=hz.2
  subst hx0 hc0
  clear hz
  go_wp2_with (at_builtin;refine wpList_append_own_none rfl _ _ 24 rfl base 5 i0 1 Tryz.underlying24 hi _ _ _ rfl ho1 rfl ?_)
  go_ret
  exact ⟨_,rfl,by simpa using ho1,hb1⟩
 | some ad =>
  go_wp2_with (at_builtin;refine wpList_append_own _ rfl _ _ 24 rfl base 5 i0 (.int .u8 0) 1 1 Tryz.underlying24 hi hz0 hz1 hz2 rfl (by decide) _ _ _ rfl ho1 ad x.length c (x.map bv) rfl ?c0 (hx1.news ad rfl) (zaw x) ?c3 ?c4 ?c5 ?_)
  case c0=>simp
  case c3=>have:=uh HL;unfold maxLen;omega
  case c4=>have:=uh HL;omega
  case c5=>omega
  intro v2 w2 ho2 hg2 _
  have hb2:Below base w w2:=hb1.grown hg2 (by omega) (fun x e=>(ho1.lt x e).1)
  rw[← List.map_append,← List.length_append] at ho2
  clear hx hx1 ho1 hg2 hb1
  go_wp2
  go_ret
  exact ⟨_,rfl,ho2,hb2⟩
def layS (x:List UInt8):List UInt8:=lb x.length 4++x
def layL (L:List (List UInt8)):List UInt8:=lb L.length 2++L.flatMap layS
set_option maxHeartbeats 400000 in
theorem ze8 (w:World) (ao:Option Addr) (c:Nat) (l:List UInt8) (v:Nat) (n:Int) (hb:Bts w ao c l) (hl:l.length+16≤70368744177664) :
  Calls Tryz.prog 23 #[.slice ao l.length c,.int .u64 v,.int .i64 n] w fun e w'=>∃ v',e = .returned v'∧w'.ownsRow w.heap.size 5 1 v' (l++lb v (nb n)).length ((l++lb v (nb n)).map bv)∧w.grownBy w' none:=by
 have hn8:nb n≤8:=by unfold nb;omega
 have H:Hid (min (max n 0) 8=((nb n:Nat):Int)):=by unfold nb Hid;omega
 generalize nb n=k at *
 go_enter Tryz.func23,Tryz.ntmps23
 go_wp2_with fail
 refine (zew _ _).mono ?_
 rintro e w' ⟨rfl,rfl⟩
 rw[H.out]
 go_wp2_with fail
 refine (ze4 _ _ _ _ k hb (by omega)).mono ?_
 rintro e w1 ⟨rfl,h1,h2⟩
 have hsz:=h2.size
 clear hb H
 go_wp2_with fail
 refine (zln _ _ _ l v k hn8 h1 hsz (by omega)).mono ?_
 rintro e w2 ⟨v2,rfl,h3,h4⟩
 clear h1
 go_wp2
 go_ret
 exact ⟨_,rfl,h3,zev ((zds h2).trans h4)⟩
theorem zpd (w:World) (ao:Option Addr) (c:Nat) (l:List UInt8) (v:Nat) (n:Int) (hb:Bts w ao c l) (hl:l.length+16≤70368744177664) :
  Calls Tryz.prog 23 #[.slice ao l.length c,.int .u64 v,.int .i64 n] w fun e w'=>∃ v',e = .returned v'∧NewB w w' v' (l++lb v (nb n))∧w.grownBy w' none :=
 (ze8 w ao c l v n hb hl).mono fun _ _ ⟨v',e,h,g⟩=>⟨v',e,NewB.own h,g⟩
set_option maxHeartbeats 400000 in
theorem zb9 (w:World) (ao bo:Option Addr) (c d:Nat) (l x:List UInt8) (hb:Bts w ao c l) (hx:Bts w bo d x) (hl:l.length+16+x.length≤70368744177664) :
  Calls Tryz.prog 47 #[.slice ao l.length c,.slice bo x.length d] w fun e w'=>∃ v',e = .returned v'∧w'.ownsRow w.heap.size 5 1 v' (l++layS x).length ((l++layS x).map bv)∧w.grownBy w' none:=by
 go_enter Tryz.func47,Tryz.ntmps47
 go_wp2_with fail
 rw[show (4:Int)+(x.length:Int)=((4+x.length:Nat):Int) from by omega]
 refine (ze4 _ _ _ _ (4+x.length) hb (by omega)).mono ?_
 rintro e w1 ⟨rfl,h1,h2⟩
 have hsz:=h2.size
 have hx1:∀ a,Below w.heap.size w1 a→Bts a bo d x:=fun a ha=>hx.below ((zds h2).trans ha)
 clear hb hx
 go_wp2_with fail
 refine (zh8 _ _ _ l bo d x h1 hsz hx1 (by omega)).mono ?_
 rintro e w2 ⟨v2,rfl,h3,h4⟩
 clear h1 hx1
 go_wp2
 go_ret
 exact ⟨_,rfl,(by unfold layS;rw[← List.append_assoc];exact h3),zev ((zds h2).trans h4)⟩
theorem zj0 (w:World) (ao bo:Option Addr) (c d:Nat) (l x:List UInt8) (hb:Bts w ao c l) (hx:Bts w bo d x) (hl:l.length+16+x.length≤70368744177664) :
  Calls Tryz.prog 47 #[.slice ao l.length c,.slice bo x.length d] w fun e w'=>∃ v',e = .returned v'∧NewB w w' v' (l++layS x)∧w.grownBy w' none :=
 (zb9 w ao bo c d l x hb hx hl).mono fun _ _ ⟨v',e,h,g⟩=>⟨v',e,NewB.own h,g⟩
theorem zbb (l:List UInt8) (k:Int):(zak l k).2.1.length≤l.length:=by
 unfold zak
 repeat' split
 all_goals simp
theorem zbc (l:List UInt8) (k n:Int):(numS l k n).2.1.length≤l.length:=by
 unfold numS
 repeat' split
 all_goals simp
theorem znd (l:List UInt8) (k:Int):(numS l k 2).1<65536:=by
 have hnb:nb 2=2:=by decide
 unfold numS
 rw[hnb]
 repeat' split
 ·simp
 ·have h1:=zjw (l.take 2)
  have h2:256 ^ (l.take 2).length≤256 ^ 2:=Nat.pow_le_pow_right (by omega) (by simp;omega)
  simp only
  omega
 ·simp
theorem zpe (v n:Nat):lb v (n+1)=lb (v / 256) n++[UInt8.ofNat v]:=by
 unfold lb
 rw[List.range_succ,List.map_append]
 congr 1
 ·apply List.map_congr_left
  intro i hi
  have hi:=List.mem_range.1 hi
  rw[show n+1 - 1 - i=(n - 1 - i)+1 from by omega,Nat.pow_succ,Nat.mul_comm,Nat.div_div_eq_div_mul]
 ·simp
theorem zpf (n:Nat):∀ v,be (lb v n)=v % 256 ^ n:=by
 induction n with
 | zero=>intro v;simp[lb,be,Nat.mod_one]
 | succ n ih =>
  intro v
  rw[zpe,zgf,ih,UInt8.toNat_ofNat',show (256:Nat) ^ (n+1)=256*256 ^ n from by rw[Nat.pow_succ,Nat.mul_comm],Nat.mod_mul]
  omega
theorem zpg (n:Nat) (h:n<4294967296) (m:List UInt8):be ((lb n 4++m).take 4)=n:=by
 have hl:=zbp n 4
 rw[List.take_append_of_le_length (by omega),List.take_of_length_le (by omega),zpf,Nat.mod_eq_of_lt (by omega)]
theorem zlo (n:Nat) (m:List UInt8):(lb n 4++m).drop 4=m:=by
 have hl:=zbp n 4
 rw[List.drop_append_of_le_length (by omega),List.drop_of_length_le (by omega),List.nil_append]
theorem zj1 (x m:List UInt8) (h:x.length≤65536):zak (layS x++m) 0=(x,m,0):=by
 have e1:layS x++m=lb x.length 4++(x++m):=by unfold layS;rw[List.append_assoc]
 have hl:=zbp x.length 4
 unfold zak
 rw[e1,zpg _ (by omega),zlo,if_pos rfl,if_neg (by simp[hl]),if_neg (by omega),if_neg (by simp[hl])]
 simp
theorem zdg (x:List UInt8):(layS x).length=4+x.length:=by simp[layS,zbp]
theorem zlp (n:Nat) (h:n<65536) (m:List UInt8):numS (lb n 2++m) 0 2=(n,m,0):=by
 have hl:=zbp n 2
 have hnb:nb 2=2:=by decide
 unfold numS
 rw[hnb,if_pos rfl,if_neg (by simp[hl])]
 rw[List.take_append_of_le_length (by omega),List.take_of_length_le (by omega),zpf,Nat.mod_eq_of_lt (by omega),List.drop_append_of_le_length (by omega),List.drop_of_length_le (by omega),List.nil_append]
theorem zgl (w:World) (rb:Nat) (ao:Option Addr) (n c:Nat) (h:w.cell? ⟨rb,0,none⟩=some (.slice ao n c)) :
  Calls Tryz.prog 54 #[.pointer (some ⟨rb,0,none⟩)] w fun x w'=>x = .returned (.int .i64 n)∧w'=w:=by
 go_enter Tryz.func54,Tryz.ntmps54
 go_wp2
 go_ret
 exact ⟨rfl,rfl⟩
theorem zh9 (w:World) (rb:Nat) (l:List UInt8) (k:Int) (h:Rd w rb l k):Calls Tryz.prog 39 #[.pointer (some ⟨rb,0,none⟩)] w fun e w'=>e = .returned (.int .i64 (zd9 l k))∧w'=w:=by
 obtain ⟨ao,c,h1,h2,h3⟩:=h
 by_cases hk:k=0
 ·subst hk
  by_cases hl:l=[]
  ·subst hl
   go_enter Tryz.func39,Tryz.ntmps39
   go_wp2_with fail
   refine (zdd _ _ h1.c1).mono ?_
   rintro e w' ⟨rfl,rfl⟩
   go_wp2_with fail
   refine (zgl _ _ _ _ _ h1.c0).mono ?_
   rintro e w' ⟨rfl,rfl⟩
   go_wp2_with fail
   refine (zdu _ _ _ h1.c1).mono ?_
   rintro e w' ⟨rfl,rfl⟩
   go_wp2
   go_ret
   exact ⟨rfl,rfl⟩
  ·have hp:0<l.length:=List.length_pos_iff.2 hl
   have e1:zd9 l 0=11:=by simp[zd9,hl]
   rw[e1]
   clear hl e1
   go_enter Tryz.func39,Tryz.ntmps39
   go_wp2_with fail
   refine (zdd _ _ h1.c1).mono ?_
   rintro e w' ⟨rfl,rfl⟩
   go_wp2_with fail
   refine (zgl _ _ _ _ _ h1.c0).mono ?_
   rintro e w' ⟨rfl,rfl⟩
   go_wp2
   go_ret
   exact ⟨rfl,rfl⟩
 ·have hk' : (k == 0)=false:=by simpa using hk
  have e1:zd9 l k=k:=by simp[zd9,hk]
  rw[e1]
  clear hk e1
  go_enter Tryz.func39,Tryz.ntmps39
  go_wp2_with fail
  refine (zld _ _ _ hk' h1.c1).mono ?_
  rintro e w' ⟨rfl,rfl⟩
  go_wp2_with fail
  refine (zdu _ _ _ h1.c1).mono ?_
  rintro e w' ⟨rfl,rfl⟩
  go_wp2
  go_ret
  exact ⟨rfl,rfl⟩
end Go.Proofs.YtegbbkgmiklhcaaGreatDoor
