/- Lemmas. -/
import Derived.Test.YtegbbkgmiklhcaaGreatDoorMOwn
import Derived.BigQuiet
import Derived.Deep.QuietTactic
namespace Go.Proofs.YtegbbkgmiklhcaaGreatDoor
open Go.RowKit
def zaw (a b:List UInt8):Bool:=Op.bytesLess a b
theorem zdm (a:List UInt8):zaw a []=false:=by cases a <;> rfl
theorem zha (c:UInt8) (r:List UInt8):zaw [] (c::r)=true:=rfl
theorem zc4 (x y:UInt8) (a b:List UInt8):zaw (x::a) (y::b)=(decide (x<y) || (x == y && zaw a b)):=rfl
theorem zc7 (a:List UInt8):zaw a a=false:=by
 induction a with
 | nil=>rfl
 | cons x r ih=>rw[zc4,ih];simp[UInt8.lt_irrefl]
theorem zds (a:List UInt8):∀ b,zaw a b=true→zaw b a=false:=by
 induction a with
 | nil=>intro b _;exact zdm b
 | cons x r ih =>
  intro b h
  cases b with
  | nil=>rw[zdm] at h;cases h
  | cons y s =>
   rw[zc4] at h ⊢
   simp only[Bool.or_eq_true,decide_eq_true_eq,Bool.and_eq_true,beq_iff_eq] at h
   rcases h with h | ⟨rfl,h⟩
   ·have h1:¬ y<x:=by rw[UInt8.lt_iff_toNat_lt] at h ⊢;omega
    have h2:¬ y=x:=fun e=>by subst e;exact UInt8.lt_irrefl _ h
    simp[h1,h2]
   ·rw[ih s h];simp[UInt8.lt_irrefl]
theorem zdt (a:List UInt8):∀ b,zaw a b=false→zaw b a=false→a=b:=by
 induction a with
 | nil =>
  intro b h _
  cases b with
  | nil=>rfl
  | cons y s=>cases h
 | cons x r ih =>
  intro b h k
  cases b with
  | nil=>cases k
  | cons y s =>
   rw[zc4] at h k
   simp only[Bool.or_eq_false_iff,decide_eq_false_iff_not] at h k
   have e:x=y:=by
    apply UInt8.toNat_inj.1
    have h1:=h.1;have k1:=k.1
    rw[UInt8.lt_iff_toNat_lt] at h1 k1
    omega
   subst e
   simp at h k
   rw[ih s h k]
theorem zdu (a:List UInt8):∀ b c,zaw a b=true→zaw b c=true→zaw a c=true:=by
 induction a with
 | nil =>
  intro b c h k
  cases c with
  | nil=>rw[zdm] at k;cases k
  | cons z t=>rfl
 | cons x r ih =>
  intro b c h k
  cases b with
  | nil=>rw[zdm] at h;cases h
  | cons y s =>
   cases c with
   | nil=>rw[zdm] at k;cases k
   | cons z t =>
    rw[zc4] at h k ⊢
    simp only[Bool.or_eq_true,decide_eq_true_eq,Bool.and_eq_true,beq_iff_eq] at h k ⊢
    simp only[UInt8.lt_iff_toNat_lt] at h k ⊢
    rcases h with h | ⟨rfl,h⟩
    ·rcases k with k | ⟨rfl,k⟩
     ·left;omega
     ·left;exact h
    ·rcases k with k | ⟨rfl,k⟩
     ·left;exact k
     ·right;exact ⟨rfl,ih s t h k⟩
theorem zmg (a b:List UInt8) (i:Nat) (ha:i<a.length) (hb:i<b.length):zaw (a.drop i) (b.drop i)=(decide (a[i]<b[i]) || (a[i] == b[i] && zaw (a.drop (i+1)) (b.drop (i+1)))):=by
 rw[List.drop_eq_getElem_cons ha,List.drop_eq_getElem_cons hb,zc4]
theorem zi2 (a b:List UInt8) (i:Nat) (h:¬ i<a.length∨¬ i<b.length) (ha:i≤a.length) (hb:i≤b.length):zaw (a.drop i) (b.drop i)=decide (a.length<b.length):=by
 by_cases hbl:i<b.length
 ·have hal:¬ i<a.length:=by omega
  rw[List.drop_eq_nil_of_le (by omega:a.length≤i),List.drop_eq_getElem_cons hbl,zha]
  simp;omega
 ·rw[List.drop_eq_nil_of_le (by omega:b.length≤i),zdm]
  simp;omega
theorem zod (w:World) (a b:List UInt8):Calls Tryz.prog 136 #[.string (str a),.string (str b)] w fun e w'=>e = .returned (.bool (zaw a b))∧w'=w:=by
 go_enter Tryz.func136,Tryz.ntmps136
 go_wp2
 go_ret
 exact ⟨by rw[za3,za3];rfl,rfl⟩
set_option maxRecDepth 100000 in
set_option maxHeartbeats 1000000 in
theorem zoe (w:World) (a b:List UInt8) (ha:a.length≤100000) (hb:b.length≤100000):Calls Tryz.prog 104 #[.string (str a),.string (str b)] w fun e w'=>e = .returned (.bool (zaw a b))∧w.grownBy w' none:=by
 obtain ⟨A,hA⟩:∃ A,A=str a:=⟨_,rfl⟩
 obtain ⟨B,hB⟩:∃ B,B=str b:=⟨_,rfl⟩
 obtain ⟨na,hna⟩:∃ n,n=a.length:=⟨_,rfl⟩
 obtain ⟨nb,hnb⟩:∃ n,n=b.length:=⟨_,rfl⟩
 have hsa:A.size=na:=by rw[hA,zaj,hna]
 have hsb:B.size=nb:=by rw[hB,zaj,hnb]
 have ia:∀ (p:Nat) (hp:p<a.length) (n:Nat),n=a[p].toNat→∀ W,(Instr.index 9 (.string A) (.int .i64 (p:Int))).run Tryz.prog W = .ok (.int .u8 (n:Int)) W:=fun p hp n hn W=>by rw[hA];exact zgj a p n hp hn W
 have ib:∀ (p:Nat) (hp:p<b.length) (n:Nat),n=b[p].toNat→∀ W,(Instr.index 9 (.string B) (.int .i64 (p:Int))).run Tryz.prog W = .ok (.int .u8 (n:Int)) W:=fun p hp n hn W=>by rw[hB];exact zgj b p n hp hn W
 rw[← hA,← hB]
 obtain ⟨HNA,HNB,HA,HB,IA,IB⟩:=zh6 hna hnb ha hb ia ib
 clear hA hB hna hnb ha hb ia ib
 go_enter Tryz.func104,Tryz.ntmps104
 go_wp2
 go_loopw [5] (fun i wr=>∃ k:Nat,k≤na∧k≤nb∧i = .int .i64 k∧Hid (zaw (a.drop k) (b.drop k)=zaw a b)∧w.grownBy wr none) (fun i _=>na - (intOf i).toNat)
 case atStart=>exact ⟨0,Nat.zero_le _,Nat.zero_le _,rfl,rfl,zaa _ _⟩
 case round =>
  obtain ⟨k,hka,hkb,rfl,hL,hg⟩:=hrel
  have hkm:(k:Int)+1<9223372036854775807:=by have:=uh HA;have:=uh HNA;omega
  by_cases h1:k<na
  ·by_cases h2:k<nb
   ·have e1:k<a.length:=by rw[← uh HNA];exact h1
    have e2:k<b.length:=by rw[← uh HNB];exact h2
    obtain ⟨x,hx⟩:∃ x,x=a[k].toNat:=⟨_,rfl⟩
    obtain ⟨y,hy⟩:∃ y,y=b[k].toNat:=⟨_,rfl⟩
    have ia:=uh IA k e1 x hx
    have ib:=uh IB k e2 y hy
    have hi1:(k:Int)<(na:Int):=by omega
    have hi2:(k:Int)<(nb:Int):=by omega
    have hi0:(0:Int)≤(k:Int):=by omega
    have hd:=zmg a b k e1 e2
    by_cases hxy:x=y
    ·have hne:((x:Int) != (y:Int))=false:=by subst hxy;simp
     have hL2:Hid (zaw (a.drop (k+1)) (b.drop (k+1))=zaw a b):=by
      have e3:a[k]=b[k]:=UInt8.toNat_inj.1 (by omega)
      rw[e3] at hd
      simp[UInt8.lt_irrefl] at hd
      rw[← hL.out,hd]
      exact rfl
     subst hxy
     obtain ⟨HX,HY⟩:=zh2 hx hy
     clear hd hL hx hy hne
     go_wp2
     go_quiet (fail)
     go_wp2
     go_roundw
     case rel=>exact ⟨k+1,by omega,by omega,by go_num,hL2,by first | exact zeb hg _ | exact zan hg⟩
     case measure=>simp[intOf];omega
    ·have hne:((x:Int) != (y:Int))=true:=by simp;omega
     have hR:zaw a b=decide (x<y):=by
      have e3:(a[k] == b[k])=false:=by
       rw[beq_eq_false_iff_ne]
       exact fun e=>hxy (by rw[hx,hy,e])
      rw[← hL.out,hd,e3,hx,hy]
      simp[UInt8.lt_iff_toNat_lt]
     obtain ⟨HR,HX,HY⟩:=zh3 hR hx hy
     clear hd hL hx hy hR hxy
     go_wp2
     go_quiet (fail)
     go_wp2
     go_quiet (fail)
     go_wp2
     go_ret
     exact ⟨by rw[uh HR];rfl,by first | exact zeb (zeb hg _) _ | exact zeb hg _⟩
   ·have hR:=zi2 a b k (Or.inr (by rw[← uh HNB];exact h2)) (by rw[← uh HNA];exact hka) (by rw[← uh HNB];exact hkb)
    rw[hL.out,← uh HNA,← uh HNB] at hR
    have HR:=hide hR
    have hi1:(k:Int)<(na:Int):=by omega
    have hi2:¬ (k:Int)<(nb:Int):=by omega
    clear hR hL
    go_wp2
    go_ret
    exact ⟨by rw[uh HR];simp,hg⟩
  ·have hR:=zi2 a b k (Or.inl (by rw[← uh HNA];exact h1)) (by rw[← uh HNA];exact hka) (by rw[← uh HNB];exact hkb)
   rw[hL.out,← uh HNA,← uh HNB] at hR
   have HR:=hide hR
   have hi1:¬ (k:Int)<(na:Int):=by omega
   clear hR hL
   go_wp2
   go_ret
   exact ⟨by rw[uh HR];simp,hg⟩
end Go.Proofs.YtegbbkgmiklhcaaGreatDoor
