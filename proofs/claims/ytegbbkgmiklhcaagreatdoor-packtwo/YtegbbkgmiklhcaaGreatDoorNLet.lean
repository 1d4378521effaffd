/- Lemmas. -/
import Derived.Test.YtegbbkgmiklhcaaGreatDoorMStr
import Derived.Laws.RangeAny
import Derived.Lib.Strings
namespace Go.Proofs.YtegbbkgmiklhcaaGreatDoor
open Go.RowKit
def zj2 (c:UInt8):List (List UInt8)→List (List UInt8)
 | []=>[[c]]
 | p::ps=>(c::p)::ps
def za2:List UInt8→List (List UInt8)
 | []=>[[]]
 | c::r=>if c=47 then []::za2 r else zj2 c (za2 r)
def zbf (p:List (List UInt8) × List UInt8) (c:UInt8):List (List UInt8) × List UInt8:=if c=47 then (p.1++[p.2],[]) else (p.1,p.2++[c])
def cutS (l:List UInt8):List (List UInt8) × List UInt8:=l.foldl zbf ([],[])
def preC (x:List UInt8):List (List UInt8)→List (List UInt8)
 | []=>[x]
 | p::ps=>(x++p)::ps
theorem zc4 (l:List UInt8):za2 l≠[]:=by
 cases l with
 | nil=>simp[za2]
 | cons c r =>
  unfold za2
  split
  ·simp
  ·cases za2 r <;> simp[zj2]
theorem zj3 (x:List UInt8) (c:UInt8) (L:List (List UInt8)) (h:L≠[]):preC x (zj2 c L)=preC (x++[c]) L:=by
 cases L with
 | nil=>exact absurd rfl h
 | cons p ps=>simp[zj2,preC]
theorem zne (l:List UInt8):∀ (D:List (List UInt8)) (C:List UInt8),(l.foldl zbf (D,C)).1++[(l.foldl zbf (D,C)).2]=D++preC C (za2 l):=by
 induction l with
 | nil=>intro D C;simp[za2,preC]
 | cons c r ih =>
  intro D C
  rw[List.foldl_cons]
  by_cases h:c=47
  ·rw[show zbf (D,C) c=(D++[C],[]) by simp[zbf,h],ih]
   have:=zc4 r
   cases hr:za2 r with
   | nil=>exact absurd hr this
   | cons p ps=>simp[za2,h,hr,preC]
  ·rw[show zbf (D,C) c=(D,C++[c]) by simp[zbf,h],ih]
   simp only[za2,h,if_false]
   rw[zj3 _ _ _ (zc4 r)]
theorem znf (L:List (List UInt8)) (h:L≠[]):preC [] L=L:=by
 cases L with
 | nil=>exact absurd rfl h
 | cons p ps=>simp[preC]
theorem zhd (l:List UInt8):(cutS l).1++[(cutS l).2]=za2 l:=by
 unfold cutS
 rw[zne,znf _ (zc4 l),List.nil_append]
theorem zlq (l:List UInt8) (c:UInt8):cutS (l++[c])=zbf (cutS l) c:=by simp[cutS,List.foldl_append]
theorem zj4 (a b:List UInt8) (h:∀ c∈b,c≠47):cutS (a++b)=((cutS a).1,(cutS a).2++b):=by
 unfold cutS
 rw[List.foldl_append]
 generalize a.foldl zbf ([],[])=p
 obtain ⟨D,C⟩:=p
 induction b generalizing C with
 | nil=>simp
 | cons c r ih =>
  rw[List.foldl_cons,show zbf (D,C) c=(D,C++[c]) by simp[zbf,h c (by simp)],ih (fun x hx=>h x (by simp[hx]))]
  simp
theorem zj5 (l:List UInt8):∀ (D:List (List UInt8)) (C:List UInt8),∃ p,C++l=p++(l.foldl zbf (D,C)).2:=by
 induction l with
 | nil=>intro D C;exact ⟨[],by simp⟩
 | cons c r ih =>
  intro D C
  rw[List.foldl_cons]
  by_cases h:c=47
  ·rw[show zbf (D,C) c=(D++[C],[]) by simp[zbf,h]]
   obtain ⟨p,hp⟩:=ih (D++[C]) []
   exact ⟨C++c::p,by rw[List.nil_append] at hp;rw[List.append_assoc,List.cons_append,← hp]⟩
  ·rw[show zbf (D,C) c=(D,C++[c]) by simp[zbf,h]]
   obtain ⟨p,hp⟩:=ih D (C++[c])
   exact ⟨p,by rw[← hp];simp⟩
theorem zng (l:List UInt8):(cutS l).2.length≤l.length∧l.drop (l.length - (cutS l).2.length)=(cutS l).2:=by
 obtain ⟨p,hp⟩:=zj5 l [] []
 rw[List.nil_append] at hp
 have hl:l.length=p.length+(cutS l).2.length:=by
  have:=congrArg List.length hp
  rw[List.length_append] at this
  exact this
 refine ⟨by omega,?_⟩
 rw[show l.length - (cutS l).2.length=p.length by omega]
 conv=>lhs;rw[hp]
 simp[cutS]
theorem zj6 (l:List UInt8):∀ p∈za2 l,p.length≤l.length:=by
 induction l with
 | nil=>intro p hp;simp[za2] at hp;subst hp;simp
 | cons d r ih =>
  intro p hp
  by_cases hd:d=47
  ·simp only[za2,hd,if_true] at hp
   rcases List.mem_cons.1 hp with rfl | hp
   ·simp
   ·have:=ih p hp;simp;omega
  ·simp only[za2,hd,if_false] at hp
   cases hr:za2 r with
   | nil=>exact absurd hr (zc4 r)
   | cons q qs =>
    rw[hr] at hp ih
    simp only[zj2] at hp
    rcases List.mem_cons.1 hp with rfl | hp
    ·have:=ih q (by simp);simp;omega
    ·have:=ih p (by simp[hp]);simp;omega
theorem zc5 (l:List UInt8):(za2 l).length≤l.length+1:=by
 induction l with
 | nil=>simp[za2]
 | cons d r ih =>
  unfold za2
  split
  ·simp;omega
  ·cases hr:za2 r with
   | nil=>exact absurd hr (zc4 r)
   | cons q qs=>rw[hr] at ih;simp[zj2] at ih ⊢;omega
def zbq (x:Int):Bool:=decide (97≤x∧x≤122) || decide (65≤x∧x≤90) || decide (48≤x∧x≤57) || x == 45 || x == 95 || x == 46
def ze9 (c:UInt8):Bool:=zbq ((c.toNat:Nat):Int)
def scan:Bool→List UInt8→Bool
 | b,[] => !b
 | b,c::r=>ze9 c && !(c == 46 && b) && scan (c == 46) r
def zq0:Bool→List UInt8→Bool
 | _,[]=>true
 | b,c::r=>ze9 c && !(c == 46 && b) && zq0 (c == 46) r
def zqg:Bool→List UInt8→Bool
 | b,[]=>b
 | _,c::r=>zqg (c == 46) r
def znh:List UInt8:=[46,108,111,99,107]
def zcy (p:List UInt8):Bool := !(Lib.hasPrefix p [45]) && !(Lib.hasSuffix p znh) && scan true p
def zja:List UInt8:=[104,101,97,100,115]
def zni:List UInt8:=[116,97,103,115]
def zgm (l:List UInt8):Int:=if l.length≤64∧(za2 l).all zcy=true then (if Lib.hasPrefix l (zja++[47])=true then 1 else if Lib.hasPrefix l (zni++[47])=true then 2 else 0) else 0
def zcj (p:List UInt8):Bool := !(p == []) && decide (p.length≤64) && !(p == [46]) && !(p == [46,46]) && p.all (fun c => !(c == 47) && !(c == 0))
def zq1 (l:List UInt8):Bool:=decide (l.length≤65536) && (za2 l).all zcj
def pathL (l:List UInt8):List (List UInt8):=if zq1 l=true then za2 l else []
theorem znj (l:List UInt8) (j:Nat) (h:j<(str l).size):(str l)[j]'h=l[j]'(by rw[← zba];exact h):=rfl
theorem zqh (l:List UInt8) (j:Nat):(str l).get! j=l.getD j 0:=by
 show l.toArray[j]! = _
 by_cases h:j<l.length
 ·simp[h,List.getD]
 ·simp[h,List.getD];rfl
theorem zia (s:ByteArray) (pos:Nat) (h:pos<s.size) (ha:128≤(s[pos]'h).toNat):pos+(Utf8.decode s pos).2≤s.size∧∀ k,k<(Utf8.decode s pos).2→128≤(s.get! (pos+k)).toNat:=by
 have hn:¬ (s[pos]'h).toNat<128:=by omega
 have e0:=get_at s pos h
 have e0' : s.get! pos=s[pos]'h:=e0
 simp only[Utf8.decode,e0,hn,if_false]
 have one:pos+1≤s.size∧∀ k,k<1→128≤(s.get! (pos+k)).toNat:=by
  refine ⟨by omega,fun k hk => ?_⟩
  obtain rfl:k=0:=by omega
  rw[e0]
  exact ha
 split
 ·rename_i h1
  simp only[Bool.and_eq_true,beq_iff_eq,decide_eq_true_eq] at h1
  split
  ·refine ⟨by show pos+2≤_;omega,fun k hk => ?_⟩
   have hk:k<2:=hk
   match k,hk with
   | 0,_=>rw[e0];exact ha
   | 1,_=>omega
  ·exact one
 ·split
  ·rename_i h1
   simp only[Bool.and_eq_true,beq_iff_eq,decide_eq_true_eq] at h1
   split
   ·refine ⟨by show pos+3≤_;omega,fun k hk => ?_⟩
    have hk:k<3:=hk
    match k,hk with
    | 0,_=>rw[e0];exact ha
    | 1,_=>omega
    | 2,_=>omega
   ·exact one
  ·split
   ·rename_i h1
    simp only[Bool.and_eq_true,beq_iff_eq,decide_eq_true_eq] at h1
    split
    ·refine ⟨by show pos+4≤_;omega,fun k hk => ?_⟩
     have hk:k<4:=hk
     match k,hk with
     | 0,_=>rw[e0];exact ha
     | 1,_=>omega
     | 2,_=>omega
     | 3,_=>omega
    ·exact one
   ·exact one
theorem zfa (l:List UInt8) (pos:Nat) (h:pos<l.length) :
  (l[pos].toNat<128∧Utf8.decode (str l) pos=(l[pos].toNat,1)) ∨
  (128≤l[pos].toNat∧128≤(Utf8.decode (str l) pos).1∧1≤(Utf8.decode (str l) pos).2∧pos+(Utf8.decode (str l) pos).2≤l.length∧∀ c∈(l.drop pos).take (Utf8.decode (str l) pos).2,128≤c.toNat):=by
 have hs:pos<(str l).size:=by rw[zba];exact h
 have hg:=znj l pos hs
 by_cases ha:l[pos].toNat<128
 ·refine Or.inl ⟨ha,?_⟩
  rw[decode_ascii (str l) pos hs (by rw[hg];exact ha),hg]
 ·refine Or.inr ⟨by omega,?_⟩
  have h1:=decode_high (str l) pos hs (by rw[hg];omega)
  have h2:=zia (str l) pos hs (by rw[hg];omega)
  rw[zba] at h2
  refine ⟨h1.1,h1.2,h2.1,fun c hc => ?_⟩
  obtain ⟨j,hj,rfl⟩:=List.getElem_of_mem hc
  have hj' : j<(Utf8.decode (str l) pos).2:=by rw[List.length_take] at hj;omega
  have:=h2.2 j hj'
  rw[zqh] at this
  rw[List.getElem_take,List.getElem_drop]
  have hlt:pos+j<l.length:=by omega
  simpa[List.getD,hlt] using this
theorem zlr (l:List UInt8) (a n:Nat):l.take (a+n)=l.take a++(l.drop a).take n:=List.take_add
theorem zea {x:Int} (h:(97≤x∧x≤122)∨(65≤x∧x≤90)∨(48≤x∧x≤57)∨x=45∨x=95∨x=46):zbq x=true:=by
 unfold zbq
 simp only[Bool.or_eq_true,decide_eq_true_eq,beq_iff_eq]
 omega
theorem zls {x:Int} (h:¬ ((97≤x∧x≤122)∨(65≤x∧x≤90)∨(48≤x∧x≤57)∨x=45∨x=95∨x=46)):zbq x=false:=by
 rw[← Bool.not_eq_true]
 unfold zbq
 simp only[Bool.or_eq_true,decide_eq_true_eq,beq_iff_eq]
 omega
set_option maxHeartbeats 1000000 in
theorem zj7 (w:World) (x:Int):Calls Tryz.prog 153 #[.int .i32 x] w fun e w'=>e = .returned (.bool (zbq x))∧w'=w:=by
 by_cases h1:97≤x∧x≤122
 ·obtain ⟨h1,h2⟩:=h1
  have hy:=hide (zea (x:=x) (by omega))
  go_enter Tryz.func153,Tryz.ntmps153
  go_wp2
  go_ret
  exact ⟨by rw[uh hy];rfl,rfl⟩
 ·by_cases h2:65≤x∧x≤90
  ·have h97:¬ 97≤x:=by omega
   clear h1
   obtain ⟨h1,h2⟩:=h2
   have hy:=hide (zea (x:=x) (by omega))
   go_enter Tryz.func153,Tryz.ntmps153
   go_wp2
   go_ret
   exact ⟨by rw[uh hy];rfl,rfl⟩
  ·by_cases h3:48≤x∧x≤57
   ·have h97:¬ 97≤x:=by omega
    have h65:¬ 65≤x:=by omega
    clear h1 h2
    obtain ⟨h1,h2⟩:=h3
    have hy:=hide (zea (x:=x) (by omega))
    go_enter Tryz.func153,Tryz.ntmps153
    go_wp2
    go_ret
    exact ⟨by rw[uh hy];rfl,rfl⟩
   ·have key:zbq x=(x == 45 || x == 95 || x == 46):=by
     unfold zbq
     simp[h1,h2,h3]
    have HK:=hide key
    have q1:∃ b,b=decide (97≤x):=⟨_,rfl⟩
    clear key
    by_cases a1:97≤x
    ·have a2:¬ x≤122:=by omega
     have a3:65≤x:=by omega
     have a4:¬ x≤90:=by omega
     have a5:48≤x:=by omega
     have a6:¬ x≤57:=by omega
     have b1:(x == 45)=false:=by simp;omega
     have b2:(x == 95)=false:=by simp;omega
     have b3:(x == 46)=false:=by simp;omega
     clear h1 h2 h3
     go_enter Tryz.func153,Tryz.ntmps153
     go_wp2
     go_ret
     exact ⟨by rw[uh HK,b1,b2,b3];rfl,rfl⟩
    ·by_cases a3:65≤x
     ·have a4:¬ x≤90:=by omega
      have a5:48≤x:=by omega
      have a6:¬ x≤57:=by omega
      have b1:(x == 45)=false:=by simp;omega
      have b3:(x == 46)=false:=by simp;omega
      clear h1 h2 h3
      cases b2:(x == 95)
      all_goals
       go_enter Tryz.func153,Tryz.ntmps153
       go_wp2
       go_ret
       exact ⟨by rw[uh HK,b1,b2,b3];rfl,rfl⟩
     ·by_cases a5:48≤x
      ·have a6:¬ x≤57:=by omega
       have b1:(x == 45)=false:=by simp;omega
       have b2:(x == 95)=false:=by simp;omega
       have b3:(x == 46)=false:=by simp;omega
       clear h1 h2 h3
       go_enter Tryz.func153,Tryz.ntmps153
       go_wp2
       go_ret
       exact ⟨by rw[uh HK,b1,b2,b3];rfl,rfl⟩
      ·have b2:(x == 95)=false:=by simp;omega
       clear h1 h2 h3
       cases b1:(x == 45)
       ·cases b3:(x == 46)
        all_goals
         go_enter Tryz.func153,Tryz.ntmps153
         go_wp2
         go_ret
         exact ⟨by rw[uh HK,b1,b2,b3];rfl,rfl⟩
       ·go_enter Tryz.func153,Tryz.ntmps153
        go_wp2
        go_ret
        exact ⟨by rw[uh HK,b1,b2];rfl,rfl⟩
end Go.Proofs.YtegbbkgmiklhcaaGreatDoor
