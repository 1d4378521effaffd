/- Lemmas. -/
import Derived.Test.YtegbbkgmiklhcaaGreatDoorMStr
import Derived.Laws.RangeAny
import Derived.Lib.Strings
namespace Go.Proofs.YtegbbkgmiklhcaaGreatDoor
open Go.RowKit
def zia (c:UInt8):List (List UInt8)→List (List UInt8)
 | []=>[[c]]
 | p::ps=>(c::p)::ps
def zau:List UInt8→List (List UInt8)
 | []=>[[]]
 | c::r=>if c=47 then []::zau r else zia c (zau r)
def zbt (p:List (List UInt8) × List UInt8) (c:UInt8):List (List UInt8) × List UInt8:=if c=47 then (p.1++[p.2],[]) else (p.1,p.2++[c])
def cutS (l:List UInt8):List (List UInt8) × List UInt8:=l.foldl zbt ([],[])
def preC (x:List UInt8):List (List UInt8)→List (List UInt8)
 | []=>[x]
 | p::ps=>(x++p)::ps
theorem zcu (l:List UInt8):zau l≠[]:=by
 cases l with
 | nil=>simp[zau]
 | cons c r =>
  unfold zau
  split
  ·simp
  ·cases zau r <;> simp[zia]
theorem zmn (x:List UInt8) (c:UInt8) (L:List (List UInt8)) (h:L≠[]):preC x (zia c L)=preC (x++[c]) L:=by
 cases L with
 | nil=>exact absurd rfl h
 | cons p ps=>simp[zia,preC]
theorem zq2 (l:List UInt8):∀ (D:List (List UInt8)) (C:List UInt8),(l.foldl zbt (D,C)).1++[(l.foldl zbt (D,C)).2]=D++preC C (zau l):=by
 induction l with
 | nil=>intro D C;simp[zau,preC]
 | cons c r ih =>
  intro D C
  rw[List.foldl_cons]
  by_cases h:c=47
  ·rw[show zbt (D,C) c=(D++[C],[]) by simp[zbt,h],ih]
   have:=zcu r
   cases hr:zau r with
   | nil=>exact absurd hr this
   | cons p ps=>simp[zau,h,hr,preC]
  ·rw[show zbt (D,C) c=(D,C++[c]) by simp[zbt,h],ih]
   simp only[zau,h,if_false]
   rw[zmn _ _ _ (zcu r)]
theorem zq3 (L:List (List UInt8)) (h:L≠[]):preC [] L=L:=by
 cases L with
 | nil=>exact absurd rfl h
 | cons p ps=>simp[preC]
theorem ze3 (l:List UInt8):(cutS l).1++[(cutS l).2]=zau l:=by
 unfold cutS
 rw[zq2,zq3 _ (zcu l),List.nil_append]
theorem zja (l:List UInt8) (c:UInt8):cutS (l++[c])=zbt (cutS l) c:=by simp[cutS,List.foldl_append]
theorem zmo (a b:List UInt8) (h:∀ c∈b,c≠47):cutS (a++b)=((cutS a).1,(cutS a).2++b):=by
 unfold cutS
 rw[List.foldl_append]
 generalize a.foldl zbt ([],[])=p
 obtain ⟨D,C⟩:=p
 induction b generalizing C with
 | nil=>simp
 | cons c r ih =>
  rw[List.foldl_cons,show zbt (D,C) c=(D,C++[c]) by simp[zbt,h c (by simp)],ih (fun x hx=>h x (by simp[hx]))]
  simp
theorem zmp (l:List UInt8):∀ (D:List (List UInt8)) (C:List UInt8),∃ p,C++l=p++(l.foldl zbt (D,C)).2:=by
 induction l with
 | nil=>intro D C;exact ⟨[],by simp⟩
 | cons c r ih =>
  intro D C
  rw[List.foldl_cons]
  by_cases h:c=47
  ·rw[show zbt (D,C) c=(D++[C],[]) by simp[zbt,h]]
   obtain ⟨p,hp⟩:=ih (D++[C]) []
   exact ⟨C++c::p,by rw[List.nil_append] at hp;rw[List.append_assoc,List.cons_append,← hp]⟩
  ·rw[show zbt (D,C) c=(D,C++[c]) by simp[zbt,h]]
   obtain ⟨p,hp⟩:=ih D (C++[c])
   exact ⟨p,by rw[← hp];simp⟩
theorem zlr (l:List UInt8):(cutS l).2.length≤l.length∧l.drop (l.length - (cutS l).2.length)=(cutS l).2:=by
 obtain ⟨p,hp⟩:=zmp l [] []
 rw[List.nil_append] at hp
 have hl:l.length=p.length+(cutS l).2.length:=by
  have:=congrArg List.length hp
  rw[List.length_append] at this
  exact this
 refine ⟨by omega,?_⟩
 rw[show l.length - (cutS l).2.length=p.length by omega]
 conv=>lhs;rw[hp]
 simp[cutS]
theorem zmq (s m:List UInt8):zau (s++47::m)=zau s++zau m:=by
 induction s with
 | nil=>simp[zau]
 | cons c r ih =>
  rw[List.cons_append]
  by_cases h:c=47
  ·simp only[zau,h,if_true]
   rw[ih];simp
  ·simp only[zau,h,if_false]
   rw[ih]
   have:=zcu r
   cases hr:zau r with
   | nil=>exact absurd hr this
   | cons p ps=>simp[zia]
theorem zjb (a:List UInt8) (h:∀ c∈a,c≠47):zau a=[a]:=by
 induction a with
 | nil=>rfl
 | cons c r ih=>simp[zau,h c (by simp),ih (fun x hx=>h x (by simp[hx])),zia]
theorem zmr (l:List UInt8):∀ x y ps,zau l=x::y::ps→∃ m,l=x++47::m:=by
 induction l with
 | nil=>intro x y ps h;simp[zau] at h
 | cons c r ih =>
  intro x y ps h
  by_cases hc:c=47
  ·simp only[zau,hc,if_true] at h
   injection h with h1 h2
   exact ⟨r,by rw[← h1,hc];rfl⟩
  ·simp only[zau,hc,if_false] at h
   cases hr:zau r with
   | nil=>exact absurd hr (zcu r)
   | cons p qs =>
    rw[hr] at h
    simp only[zia] at h
    injection h with h1 h2
    subst h2
    obtain ⟨m,hm⟩:=ih p y ps hr
    exact ⟨m,by rw[← h1,hm];rfl⟩
theorem zhn (l:List UInt8):∀ p∈zau l,p.length≤l.length:=by
 induction l with
 | nil=>intro p hp;simp[zau] at hp;subst hp;simp
 | cons d r ih =>
  intro p hp
  by_cases hd:d=47
  ·simp only[zau,hd,if_true] at hp
   rcases List.mem_cons.1 hp with rfl | hp
   ·simp
   ·have:=ih p hp;simp;omega
  ·simp only[zau,hd,if_false] at hp
   cases hr:zau r with
   | nil=>exact absurd hr (zcu r)
   | cons q qs =>
    rw[hr] at hp ih
    simp only[zia] at hp
    rcases List.mem_cons.1 hp with rfl | hp
    ·have:=ih q (by simp);simp;omega
    ·have:=ih p (by simp[hp]);simp;omega
theorem zcv (l:List UInt8):(zau l).length≤l.length+1:=by
 induction l with
 | nil=>simp[zau]
 | cons d r ih =>
  unfold zau
  split
  ·simp;omega
  ·cases hr:zau r with
   | nil=>exact absurd hr (zcu r)
   | cons q qs=>rw[hr] at ih;simp[zia] at ih ⊢;omega
def zbn (x:Int):Bool:=decide (97≤x∧x≤122) || decide (65≤x∧x≤90) || decide (48≤x∧x≤57) || x == 45 || x == 95 || x == 46
def zeq (c:UInt8):Bool:=zbn ((c.toNat:Nat):Int)
def scan:Bool→List UInt8→Bool
 | b,[] => !b
 | b,c::r=>zeq c && !(c == 46 && b) && scan (c == 46) r
def zd3:Bool→List UInt8→Bool
 | _,[]=>true
 | b,c::r=>zeq c && !(c == 46 && b) && zd3 (c == 46) r
def zf4:Bool→List UInt8→Bool
 | b,[]=>b
 | _,c::r=>zf4 (c == 46) r
theorem zq4 (l:List UInt8):∀ b,scan b l=(zd3 b l && !zf4 b l):=by
 induction l with
 | nil=>intro b;simp[scan,zd3,zf4]
 | cons c r ih=>intro b;simp only[scan,zd3,zf4,ih];simp[Bool.and_assoc]
theorem zkf (l:List UInt8):∀ b (h:l≠[]),zf4 b l=(l.getLast h == 46):=by
 induction l with
 | nil=>intro b h;exact absurd rfl h
 | cons c r ih =>
  intro b h
  cases r with
  | nil=>simp[zf4]
  | cons d s =>
   show zf4 (c == 46) (d::s)=_
   rw[ih _ (by simp),List.getLast_cons (by simp:d::s≠[])]
def zib:List UInt8:=[46,108,111,99,107]
def zbu (p:List UInt8):Bool := !(Lib.hasPrefix p [45]) && !(Lib.hasSuffix p zib) && scan true p
def ze4:List UInt8:=[104,101,97,100,115]
def zic:List UInt8:=[116,97,103,115]
def zdt (l:List UInt8):Int:=if l.length≤64∧(zau l).all zbu=true then (if Lib.hasPrefix l (ze4++[47])=true then 1 else if Lib.hasPrefix l (zic++[47])=true then 2 else 0) else 0
def zbv (p:List UInt8):Bool := !(p == []) && decide (p.length≤64) && !(p == [46]) && !(p == [46,46]) && p.all (fun c => !(c == 47) && !(c == 0))
def zvk (l:List UInt8):Bool:=decide (l.length≤65536) && (zau l).all zbv
def pathL (l:List UInt8):List (List UInt8):=if zvk l=true then zau l else []
theorem zq5 (l:List UInt8) (j:Nat) (h:j<(str l).size):(str l)[j]'h=l[j]'(by rw[← zaj];exact h):=rfl
theorem zum (l:List UInt8) (j:Nat):(str l).get! j=l.getD j 0:=by
 show l.toArray[j]! = _
 by_cases h:j<l.length
 ·simp[h,List.getD]
 ·simp[h,List.getD];rfl
theorem zkg (s:ByteArray) (pos:Nat) (h:pos<s.size) (ha:128≤(s[pos]'h).toNat):pos+(Utf8.decode s pos).2≤s.size∧∀ k,k<(Utf8.decode s pos).2→128≤(s.get! (pos+k)).toNat:=by
 have hn:¬ (s[pos]'h).toNat<128:=by omega
 have e0:=get_at s pos h
 have e0' : s.get! pos=s[pos]'h:=e0
 simp only[Utf8.decode,e0,hn,if_false]
 have one:pos+1≤s.size∧∀ k,k<1→128≤(s.get! (pos+k)).toNat:=by
  refine ⟨by omega,fun k hk => ?_⟩
  obtain rfl:k=0:=by omega
  rw[e0]
  exact ha
 split
 ·rename_i h1
  simp only[Bool.and_eq_true,beq_iff_eq,decide_eq_true_eq] at h1
  split
  ·refine ⟨by show pos+2≤_;omega,fun k hk => ?_⟩
   have hk:k<2:=hk
   match k,hk with
   | 0,_=>rw[e0];exact ha
   | 1,_=>omega
  ·exact one
 ·split
  ·rename_i h1
   simp only[Bool.and_eq_true,beq_iff_eq,decide_eq_true_eq] at h1
   split
   ·refine ⟨by show pos+3≤_;omega,fun k hk => ?_⟩
    have hk:k<3:=hk
    match k,hk with
    | 0,_=>rw[e0];exact ha
    | 1,_=>omega
    | 2,_=>omega
   ·exact one
  ·split
   ·rename_i h1
    simp only[Bool.and_eq_true,beq_iff_eq,decide_eq_true_eq] at h1
    split
    ·refine ⟨by show pos+4≤_;omega,fun k hk => ?_⟩
     have hk:k<4:=hk
     match k,hk with
     | 0,_=>rw[e0];exact ha
     | 1,_=>omega
     | 2,_=>omega
     | 3,_=>omega
    ·exact one
   ·exact one
theorem zgv (l:List UInt8) (pos:Nat) (h:pos<l.length) :
  (l[pos].toNat<128∧Utf8.decode (str l) pos=(l[pos].toNat,1)) ∨
  (128≤l[pos].toNat∧128≤(Utf8.decode (str l) pos).1∧1≤(Utf8.decode (str l) pos).2∧pos+(Utf8.decode (str l) pos).2≤l.length∧∀ c∈(l.drop pos).take (Utf8.decode (str l) pos).2,128≤c.toNat):=by
 have hs:pos<(str l).size:=by rw[zaj];exact h
 have hg:=zq5 l pos hs
 by_cases ha:l[pos].toNat<128
 ·refine Or.inl ⟨ha,?_⟩
  rw[decode_ascii (str l) pos hs (by rw[hg];exact ha),hg]
 ·refine Or.inr ⟨by omega,?_⟩
  have h1:=decode_high (str l) pos hs (by rw[hg];omega)
  have h2:=zkg (str l) pos hs (by rw[hg];omega)
  rw[zaj] at h2
  refine ⟨h1.1,h1.2,h2.1,fun c hc => ?_⟩
  obtain ⟨j,hj,rfl⟩:=List.getElem_of_mem hc
  have hj' : j<(Utf8.decode (str l) pos).2:=by rw[List.length_take] at hj;omega
  have:=h2.2 j hj'
  rw[zum] at this
  rw[List.getElem_take,List.getElem_drop]
  have hlt:pos+j<l.length:=by omega
  simpa[List.getD,hlt] using this
theorem zop (l:List UInt8) (a n:Nat):l.take (a+n)=l.take a++(l.drop a).take n:=List.take_add
theorem zc5 {x:Int} (h:(97≤x∧x≤122)∨(65≤x∧x≤90)∨(48≤x∧x≤57)∨x=45∨x=95∨x=46):zbn x=true:=by
 unfold zbn
 simp only[Bool.or_eq_true,decide_eq_true_eq,beq_iff_eq]
 omega
theorem zoq {x:Int} (h:¬ ((97≤x∧x≤122)∨(65≤x∧x≤90)∨(48≤x∧x≤57)∨x=45∨x=95∨x=46)):zbn x=false:=by
 rw[← Bool.not_eq_true]
 unfold zbn
 simp only[Bool.or_eq_true,decide_eq_true_eq,beq_iff_eq]
 omega
set_option maxHeartbeats 1000000 in
theorem zms (w:World) (x:Int):Calls Tryz.prog 153 #[.int .i32 x] w fun e w'=>e = .returned (.bool (zbn x))∧w'=w:=by
 by_cases h1:97≤x∧x≤122
 ·obtain ⟨h1,h2⟩:=h1
  have hy:=hide (zc5 (x:=x) (by omega))
  go_enter Tryz.func153,Tryz.ntmps153
  go_wp2
  go_ret
  exact ⟨by rw[uh hy];rfl,rfl⟩
 ·by_cases h2:65≤x∧x≤90
  ·have h97:¬ 97≤x:=by omega
   clear h1
   obtain ⟨h1,h2⟩:=h2
   have hy:=hide (zc5 (x:=x) (by omega))
   go_enter Tryz.func153,Tryz.ntmps153
   go_wp2
   go_ret
   exact ⟨by rw[uh hy];rfl,rfl⟩
  ·by_cases h3:48≤x∧x≤57
   ·have h97:¬ 97≤x:=by omega
    have h65:¬ 65≤x:=by omega
    clear h1 h2
    obtain ⟨h1,h2⟩:=h3
    have hy:=hide (zc5 (x:=x) (by omega))
    go_enter Tryz.func153,Tryz.ntmps153
    go_wp2
    go_ret
    exact ⟨by rw[uh hy];rfl,rfl⟩
   ·have key:zbn x=(x == 45 || x == 95 || x == 46):=by
     unfold zbn
     simp[h1,h2,h3]
    have HK:=hide key
    have q1:∃ b,b=decide (97≤x):=⟨_,rfl⟩
    clear key
    by_cases a1:97≤x
    ·have a2:¬ x≤122:=by omega
     have a3:65≤x:=by omega
     have a4:¬ x≤90:=by omega
     have a5:48≤x:=by omega
     have a6:¬ x≤57:=by omega
     have b1:(x == 45)=false:=by simp;omega
     have b2:(x == 95)=false:=by simp;omega
     have b3:(x == 46)=false:=by simp;omega
     clear h1 h2 h3
     go_enter Tryz.func153,Tryz.ntmps153
     go_wp2
     go_ret
     exact ⟨by rw[uh HK,b1,b2,b3];rfl,rfl⟩
    ·by_cases a3:65≤x
     ·have a4:¬ x≤90:=by omega
      have a5:48≤x:=by omega
      have a6:¬ x≤57:=by omega
      have b1:(x == 45)=false:=by simp;omega
      have b3:(x == 46)=false:=by simp;omega
      clear h1 h2 h3
      cases b2:(x == 95)
      all_goals
       go_enter Tryz.func153,Tryz.ntmps153
       go_wp2
       go_ret
       exact ⟨by rw[uh HK,b1,b2,b3];rfl,rfl⟩
     ·by_cases a5:48≤x
      ·have a6:¬ x≤57:=by omega
       have b1:(x == 45)=false:=by simp;omega
       have b2:(x == 95)=false:=by simp;omega
       have b3:(x == 46)=false:=by simp;omega
       clear h1 h2 h3
       go_enter Tryz.func153,Tryz.ntmps153
       go_wp2
       go_ret
       exact ⟨by rw[uh HK,b1,b2,b3];rfl,rfl⟩
      ·have b2:(x == 95)=false:=by simp;omega
       clear h1 h2 h3
       cases b1:(x == 45)
       ·cases b3:(x == 46)
        all_goals
         go_enter Tryz.func153,Tryz.ntmps153
         go_wp2
         go_ret
         exact ⟨by rw[uh HK,b1,b2,b3];rfl,rfl⟩
       ·go_enter Tryz.func153,Tryz.ntmps153
        go_wp2
        go_ret
        exact ⟨by rw[uh HK,b1,b2];rfl,rfl⟩
set_option maxHeartbeats 1000000 in
theorem zkh (w:World) (x:Int):Calls Tryz.prog 143 #[.int .u8 x] w fun e w'=>e = .returned (.bool (zbn x))∧w'=w:=by
 by_cases h1:97≤x∧x≤122
 ·obtain ⟨h1,h2⟩:=h1
  have hy:=hide (zc5 (x:=x) (by omega))
  go_enter Tryz.func143,Tryz.ntmps143
  go_wp2
  go_ret
  exact ⟨by rw[uh hy];rfl,rfl⟩
 ·by_cases h2:65≤x∧x≤90
  ·have h97:¬ 97≤x:=by omega
   clear h1
   obtain ⟨h1,h2⟩:=h2
   have hy:=hide (zc5 (x:=x) (by omega))
   go_enter Tryz.func143,Tryz.ntmps143
   go_wp2
   go_ret
   exact ⟨by rw[uh hy];rfl,rfl⟩
  ·by_cases h3:48≤x∧x≤57
   ·have h97:¬ 97≤x:=by omega
    have h65:¬ 65≤x:=by omega
    clear h1 h2
    obtain ⟨h1,h2⟩:=h3
    have hy:=hide (zc5 (x:=x) (by omega))
    go_enter Tryz.func143,Tryz.ntmps143
    go_wp2
    go_ret
    exact ⟨by rw[uh hy];rfl,rfl⟩
   ·have key:zbn x=(x == 45 || x == 95 || x == 46):=by
     unfold zbn
     simp[h1,h2,h3]
    have HK:=hide key
    have q1:∃ b,b=decide (97≤x):=⟨_,rfl⟩
    clear key
    by_cases a1:97≤x
    ·have a2:¬ x≤122:=by omega
     have a3:65≤x:=by omega
     have a4:¬ x≤90:=by omega
     have a5:48≤x:=by omega
     have a6:¬ x≤57:=by omega
     have b1:(x == 45)=false:=by simp;omega
     have b2:(x == 95)=false:=by simp;omega
     have b3:(x == 46)=false:=by simp;omega
     clear h1 h2 h3
     go_enter Tryz.func143,Tryz.ntmps143
     go_wp2
     go_ret
     exact ⟨by rw[uh HK,b1,b2,b3];rfl,rfl⟩
    ·by_cases a3:65≤x
     ·have a4:¬ x≤90:=by omega
      have a5:48≤x:=by omega
      have a6:¬ x≤57:=by omega
      have b1:(x == 45)=false:=by simp;omega
      have b3:(x == 46)=false:=by simp;omega
      clear h1 h2 h3
      cases b2:(x == 95)
      all_goals
       go_enter Tryz.func143,Tryz.ntmps143
       go_wp2
       go_ret
       exact ⟨by rw[uh HK,b1,b2,b3];rfl,rfl⟩
     ·by_cases a5:48≤x
      ·have a6:¬ x≤57:=by omega
       have b1:(x == 45)=false:=by simp;omega
       have b2:(x == 95)=false:=by simp;omega
       have b3:(x == 46)=false:=by simp;omega
       clear h1 h2 h3
       go_enter Tryz.func143,Tryz.ntmps143
       go_wp2
       go_ret
       exact ⟨by rw[uh HK,b1,b2,b3];rfl,rfl⟩
      ·have b2:(x == 95)=false:=by simp;omega
       clear h1 h2 h3
       cases b1:(x == 45)
       ·cases b3:(x == 46)
        all_goals
         go_enter Tryz.func143,Tryz.ntmps143
         go_wp2
         go_ret
         exact ⟨by rw[uh HK,b1,b2,b3];rfl,rfl⟩
       ·go_enter Tryz.func143,Tryz.ntmps143
        go_wp2
        go_ret
        exact ⟨by rw[uh HK,b1,b2];rfl,rfl⟩
end Go.Proofs.YtegbbkgmiklhcaaGreatDoor
