/- Lemmas. -/
import Derived.Test.YtoilcpdhhlcidaaGreatDoorCtA
import Derived.BigQuiet
import Derived.Test.YtoilcpdhhlcidaaGreatDoorMStr
namespace Go.Proofs.YtoilcpdhhlcidaaGreatDoor
open Go.RowKit
def secU (p:Nat) (b:List UInt8) (k:Nat):List (Nat × List UInt8):=(List.range k).map fun j=>(p+1+j,secB b j)
theorem zin (p:Nat) (b:List UInt8) (k:Nat):secU p b (k+1)=secU p b k++[(p+1+k,secB b k)]:=by unfold secU;rw[List.range_succ,List.map_append];rfl
theorem zdz {S:List (List UInt8)} {p:Nat} {b:List UInt8} (hS:∀ s∈S,s.length=256):∀ k,∀ s∈zc8 S p b k,s.length=256
 | 0,s,h=>hS s h
 | k+1,s,h=>by
   rw[zc8] at h
   rcases List.mem_or_eq_of_mem_set h with h | h
   ·exact zdz hS k s h
   ·rw[h];exact zcx b k
theorem zf1 {S:List (List UInt8)} {p:Nat} {b:List UInt8} (hS:∀ s∈S,s.length=256):∀ k,p+1+k≤S.length→za7 (fun _=>256) 0 (secU p b k) S=zc8 S p b k
 | 0,_=>rfl
 | k+1,hk=>by
   rw[zin,zdy,zf1 hS k (by omega),zgw]
   exact zkg (x:=(p+1+k,secB b k)) (zcx b k) (by rw[zcb];simp only;omega) (zdz hS k)
theorem zio {x:List UInt8} (h:x.length=256):padS x=x:=by
 unfold padS
 rw[h]
 simp
theorem zlm {sm:List UInt8→List UInt8} (hs:∀ b,(sm b).length=32) {S:List (List UInt8)} {p g n:Nat} {l:List Chg} (hS:∀ s∈S,s.length=256) (hp:zaz p l≤S.length) :
  za7 (fun _=>256) 0 [(p,za8 (zbq sm g n (recB l)))] (za7 (fun _=>256) 0 (secU p (recB l) (secN (recB l).length)) S)=wrS sm S p g n l:=by
 unfold zaz at hp
 rw[zf1 hS _ hp,za7,za7,zgw]
 unfold wrS
 exact zkg (x:=(p,za8 (zbq sm g n (recB l)))) (zec (zcm hs _ _ _)) (by rw[zcb];simp only;omega) (zdz hS _)
theorem zcp:zaz 0 []=2:=rfl
theorem zki:MayC []:=⟨Nat.zero_le _,fun _ h=>by cases h⟩
section
variable {sm:List UInt8→List UInt8} (hs:∀ b,(sm b).length=32)
include hs
theorem StoS.begin {S:List (List UInt8)} {h:Nat} (hh:4≤h) (hl:2*h≤S.length) (hb:S.length<4294967296) (hn:∀ q,2≤q→∀ g n b,¬ MkS sm S[q]? g n b):StoS sm (wrS sm S 0 1 0 []) h 0 1 [[]] 2:=by
 have hw:WholeS sm (wrS sm S 0 1 0 []) h 0 1 0 []:=zf0 zki (by rw[zcp];omega) (by omega)
 have off:∀ q,2≤q→∀ g n b,¬ MkS sm (wrS sm S 0 1 0 [])[q]? g n b:=fun q hq g n b m=>by
  rw[zcd (Or.inr (by rw[zcp];exact hq))] at m
  exact hn q hq g n b m
 refine ⟨by omega,by omega,by rw[zc0];simp;omega,by rw[zc0];exact hl,by simp,?_,?_,?_,?_⟩
 ·rw[Nat.zero_mul,Nat.zero_add]
  exact ⟨hw,rfl,fun l2 h2=>off _ (Nat.le_refl _) _ _ _ (h2.mks (by omega) (by omega))⟩
 ·intro q h1 _ g' n b m
  exact absurd m (off q h1 g' n b)
 ·intro q h1 _ g' n b m
  exact absurd m (off q (by omega) g' n b)
 ·intro q _ _ g' n b m
  by_cases hq:2≤q
  ·exact absurd m (off q hq g' n b)
  ·rcases (show q=0∨q=1 by omega) with rfl | rfl
   ·have m2:=hw.mks (by omega) (by omega)
    exact Nat.le_of_eq (m.one hs m2).1
   ·have e:=zfz (sm:=sm) (S:=S) (p:=0) (g:=1) (n:=0) (l:=[]) (by rw[zcp];omega) (i:=0) (by decide)
    rw[show (0:Nat)+1+0=1 from rfl] at e
    rw[e] at m
    have:=m.is
    injection this with this
    exact absurd this zc9
theorem StoS.there {S:List (List UInt8)} {h:Nat} (hh:4≤h) (hl:2*h≤S.length) (hb:S.length<4294967296) (hn:∀ q,2≤q→∀ g n b,¬ MkS sm S[q]? g n b) (h0:S[0]? = some (za8 (zbq sm 1 0 [0,0]))) (h1:S[1]? = some (secB [0,0] 0)):StoS sm S h 0 1 [[]] 2:=by
 have e:wrS sm S 0 1 0 []=S:=by
  apply List.ext_getElem?
  intro i
  rcases (show i=0∨i=1∨2≤i by omega) with rfl | rfl | hi
  ·rw[zkh (by rw[zcp];omega),h0];rfl
  ·have e:=zfz (sm:=sm) (S:=S) (p:=0) (g:=1) (n:=0) (l:=[]) (by rw[zcp];omega) (i:=0) (by decide)
   rw[show (0:Nat)+1+0=1 from rfl] at e
   rw[e,h1]
   rfl
  ·rw[zcd (Or.inr (by rw[zcp];exact hi))]
 have:=StoS.begin hs hh hl hb hn
 rw[e] at this
 exact this
end
def zbv (a b:List UInt8):Bool:=Op.bytesLess a b
theorem zce (a:List UInt8):zbv a []=false:=by cases a <;> rfl
theorem zgr (c:UInt8) (r:List UInt8):zbv [] (c::r)=true:=rfl
theorem zcq (x y:UInt8) (a b:List UInt8):zbv (x::a) (y::b)=(decide (x<y) || (x == y && zbv a b)):=rfl
theorem zda (a:List UInt8):zbv a a=false:=by
 induction a with
 | nil=>rfl
 | cons x r ih=>rw[zcq,ih];simp[UInt8.lt_irrefl]
theorem zf2 (a:List UInt8):∀ b,zbv a b=true→zbv b a=false:=by
 induction a with
 | nil=>intro b _;exact zce b
 | cons x r ih =>
   intro b h
   cases b with
   | nil=>rw[zce] at h;cases h
   | cons y s =>
     rw[zcq] at h ⊢
     simp only[Bool.or_eq_true,decide_eq_true_eq,Bool.and_eq_true,beq_iff_eq] at h
     rcases h with h | ⟨rfl,h⟩
     ·have h1:¬ y<x:=by rw[UInt8.lt_iff_toNat_lt] at h ⊢;omega
      have h2:¬ y=x:=fun e=>by subst e;exact UInt8.lt_irrefl _ h
      simp[h1,h2]
     ·rw[ih s h];simp[UInt8.lt_irrefl]
theorem zd0 (a:List UInt8):∀ b,zbv a b=false→zbv b a=false→a=b:=by
 induction a with
 | nil =>
   intro b h _
   cases b with
   | nil=>rfl
   | cons y s=>cases h
 | cons x r ih =>
   intro b h k
   cases b with
   | nil=>cases k
   | cons y s =>
     rw[zcq] at h k
     simp only[Bool.or_eq_false_iff,decide_eq_false_iff_not] at h k
     have e:x=y:=by
      apply UInt8.toNat_inj.1
      have h1:=h.1;have k1:=k.1
      rw[UInt8.lt_iff_toNat_lt] at h1 k1
      omega
     subst e
     simp at h k
     rw[ih s h k]
theorem zf3 (a:List UInt8):∀ b c,zbv a b=true→zbv b c=true→zbv a c=true:=by
 induction a with
 | nil =>
   intro b c h k
   cases c with
   | nil=>rw[zce] at k;cases k
   | cons z t=>rfl
 | cons x r ih =>
   intro b c h k
   cases b with
   | nil=>rw[zce] at h;cases h
   | cons y s =>
     cases c with
     | nil=>rw[zce] at k;cases k
     | cons z t =>
       rw[zcq] at h k ⊢
       simp only[Bool.or_eq_true,decide_eq_true_eq,Bool.and_eq_true,beq_iff_eq] at h k ⊢
       simp only[UInt8.lt_iff_toNat_lt] at h k ⊢
       rcases h with h | ⟨rfl,h⟩
       ·rcases k with k | ⟨rfl,k⟩
        ·left;omega
        ·left;exact h
       ·rcases k with k | ⟨rfl,k⟩
        ·left;exact k
        ·right;exact ⟨rfl,ih s t h k⟩
def zao (V:List (List UInt8 × List UInt8)):List (List UInt8):=V.map (·.1)
def RisK (V:List (List UInt8 × List UInt8)):Prop:=(zao V).Pairwise fun a b=>zbv a b=true
def getK:List (List UInt8 × List UInt8)→List UInt8→Option (List UInt8)
 | [],_=>none
 | (a,x)::V,k=>if a=k then some x else getK V k
def putK:List (List UInt8 × List UInt8)→List UInt8→List UInt8→List (List UInt8 × List UInt8)
 | [],k,v=>[(k,v)]
 | (a,x)::V,k,v=>if zbv k a=true then (k,v)::(a,x)::V else if a=k then (k,v)::V else (a,x)::putK V k v
def delK (V:List (List UInt8 × List UInt8)) (k:List UInt8):List (List UInt8 × List UInt8):=V.filter fun x=>x.1 != k
def zbr (V:List (List UInt8 × List UInt8)) (c:Chg):List (List UInt8 × List UInt8):=if c.gone then delK V c.key else putK V c.key c.value
def zal (V:List (List UInt8 × List UInt8)) (l:List Chg):List (List UInt8 × List UInt8):=l.foldl zbr V
theorem RisK.nil:RisK []:=List.Pairwise.nil
theorem RisK.cons {a x:List UInt8} {V:List (List UInt8 × List UInt8)} (h:RisK ((a,x)::V)):(∀ y∈V,zbv a y.1=true)∧RisK V:=by
 have:=List.pairwise_cons.1 (show ((a::zao V).Pairwise fun a b=>zbv a b=true) from h)
 exact ⟨fun y hy=>this.1 y.1 (List.mem_map.2 ⟨y,hy,rfl⟩),this.2⟩
theorem RisK.mk' {a x:List UInt8} {V:List (List UInt8 × List UInt8)} (h1:∀ y∈V,zbv a y.1=true) (h2:RisK V):RisK ((a,x)::V) :=
 List.pairwise_cons.2 ⟨fun b hb=>by obtain ⟨y,hy,rfl⟩:=List.mem_map.1 hb;exact h1 y hy,h2⟩
theorem zdr {a b:List UInt8} (h:zbv a b=true):a≠b:=by
 rintro rfl
 rw[zda] at h
 cases h
theorem zdb {V:List (List UInt8 × List UInt8)} {k:List UInt8} (h:∀ y∈V,y.1≠k):getK V k=none:=by
 induction V with
 | nil=>rfl
 | cons y V ih =>
   obtain ⟨a,x⟩:=y
   rw[getK,if_neg (h (a,x) (by simp))]
   exact ih fun z hz=>h z (by simp[hz])
theorem zkj {V:List (List UInt8 × List UInt8)} {k v:List UInt8} {y:List UInt8 × List UInt8} (h:y∈putK V k v):y=(k,v)∨y∈V:=by
 induction V with
 | nil=>simp[putK] at h;exact Or.inl h
 | cons z V ih =>
   obtain ⟨a,x⟩:=z
   rw[putK] at h
   split at h
   ·rcases List.mem_cons.1 h with h | h
    ·exact Or.inl h
    ·exact Or.inr h
   ·split at h
    ·rcases List.mem_cons.1 h with h | h
     ·exact Or.inl h
     ·exact Or.inr (List.mem_cons_of_mem _ h)
    ·rcases List.mem_cons.1 h with h | h
     ·exact Or.inr (by rw[h];exact List.mem_cons_self ..)
     ·rcases ih h with h | h
      ·exact Or.inl h
      ·exact Or.inr (List.mem_cons_of_mem _ h)
theorem zkk {V:List (List UInt8 × List UInt8)} (h:RisK V) (k v:List UInt8):RisK (putK V k v):=by
 induction V with
 | nil=>exact RisK.mk' (fun _ h=>by cases h) RisK.nil
 | cons z V ih =>
   obtain ⟨a,x⟩:=z
   obtain ⟨h1,h2⟩:=h.cons
   rw[putK]
   split
   ·rename_i hk
    exact RisK.mk' (fun y hy=>by
     rcases List.mem_cons.1 hy with rfl | hy
     ·exact hk
     ·exact zf3 _ _ _ hk (h1 y hy)) h
   ·rename_i hk
    split
    ·rename_i he
     subst he
     exact RisK.mk' h1 h2
    ·rename_i he
     have hka:zbv a k=true:=by
      cases hh:zbv a k with
      | true=>rfl
      | false=>exact absurd (zd0 a k hh (by simpa using hk)) he
     exact RisK.mk' (fun y hy=>by
      rcases zkj hy with rfl | hy
      ·exact hka
      ·exact h1 y hy) (ih h2)
theorem zfn {V:List (List UInt8 × List UInt8)} (h:RisK V) (k v q:List UInt8):getK (putK V k v) q=if k=q then some v else getK V q:=by
 induction V with
 | nil=>rfl
 | cons z V ih =>
   obtain ⟨a,x⟩:=z
   obtain ⟨h1,h2⟩:=h.cons
   rw[putK]
   split
   ·rw[getK]
   ·split
    ·rename_i he
     subst he
     rw[getK,getK]
     split <;> rfl
    ·rename_i he
     rw[getK,getK,ih h2]
     by_cases e:a=q
     ·subst e
      rw[if_pos rfl,if_pos rfl,if_neg (fun e2=>he e2.symm)]
     ·rw[if_neg e,if_neg e]
theorem zkl {V:List (List UInt8 × List UInt8)} (h:RisK V) (k:List UInt8):RisK (delK V k):=by
 unfold delK RisK zao
 rw[List.pairwise_map]
 exact List.Pairwise.filter _ (List.pairwise_map.1 h)
theorem zhn (V:List (List UInt8 × List UInt8)) (k q:List UInt8):getK (delK V k) q=if k=q then none else getK V q:=by
 induction V with
 | nil=>simp[delK,getK]
 | cons z V ih =>
   obtain ⟨a,x⟩:=z
   unfold delK at *
   rw[List.filter_cons]
   by_cases e:a=k
   ·subst e
    rw[if_neg (by simp),ih,getK]
    split <;> rfl
   ·rw[if_pos (by simpa using e),getK,getK,ih]
    by_cases e2:a=q
    ·subst e2
     rw[if_pos rfl,if_neg (fun h=>e h.symm),if_pos rfl]
    ·rw[if_neg e2,if_neg e2]
theorem ziq {V:List (List UInt8 × List UInt8)} (h:RisK V) (c:Chg):RisK (zbr V c):=by
 unfold zbr
 split
 ·exact zkl h _
 ·exact zkk h _ _
theorem zbw:∀ (l:List Chg) {V:List (List UInt8 × List UInt8)},RisK V→RisK (zal V l)
 | [],_,h=>h
 | c::l,_,h=>zbw l (ziq h c)
theorem zmz {V:List (List UInt8 × List UInt8)} (h:RisK V) (c:Chg):getK (zbr V c)=zfk (getK V) c:=by
 funext q
 unfold zbr zfk
 split
 ·rename_i hg
  rw[zhn]
 ·rename_i hg
  rw[zfn h]
theorem zef:∀ (l:List Chg) {V:List (List UInt8 × List UInt8)},RisK V→getK (zal V l)=zgq (getK V) l
 | [],_,_=>rfl
 | c::l,V,h=>by
   show getK (zal (zbr V c) l)=zgq (zfk (getK V) c) l
   rw[zef l (ziq h c),zmz h]
theorem RisK.ext:∀ {V W:List (List UInt8 × List UInt8)},RisK V→RisK W→(∀ k,getK V k=getK W k)→V=W
 | [],[],_,_,_=>rfl
 | [],(a,x)::W,_,_,h=>by have:=h a;simp[getK] at this
 | (a,x)::V,[],_,_,h=>by have:=h a;simp[getK] at this
 | (a,x)::V,(b,y)::W,hV,hW,h=>by
   obtain ⟨v1,v2⟩:=hV.cons
   obtain ⟨w1,w2⟩:=hW.cons
   have hab:a=b:=by
    apply Classical.byContradiction
    intro hne
    have ha:=h a
    have hb:=h b
    rw[getK,if_pos rfl,getK,if_neg (fun e=>hne e.symm)] at ha
    rw[getK,if_neg hne,getK,if_pos rfl] at hb
    have in1:∃ z∈W,z.1=a:=Classical.byContradiction fun hno=>by
     rw[zdb (fun z hz e=>hno ⟨z,hz,e⟩)] at ha
     cases ha
    have in2:∃ z∈V,z.1=b:=Classical.byContradiction fun hno=>by
     rw[zdb (fun z hz e=>hno ⟨z,hz,e⟩)] at hb
     cases hb
    obtain ⟨z1,hz1,e1⟩:=in1
    obtain ⟨z2,hz2,e2⟩:=in2
    have l1:=w1 z1 hz1
    have l2:=v1 z2 hz2
    rw[e1] at l1
    rw[e2] at l2
    have:=zf2 _ _ l1
    rw[l2] at this
    cases this
   subst hab
   have hx:=h a
   rw[getK,if_pos rfl,getK,if_pos rfl] at hx
   injection hx with hx
   subst hx
   rw[RisK.ext v2 w2 fun k => ?_]
   by_cases e:a=k
   ·subst e
    rw[zdb (fun z hz e2=>zdr (v1 z hz) e2.symm),zdb (fun z hz e2=>zdr (w1 z hz) e2.symm)]
   ·have:=h k
    rw[getK,if_neg e,getK,if_neg e] at this
    exact this
def allC (V:List (List UInt8 × List UInt8)):List Chg:=V.map fun y=>⟨y.1,y.2,false⟩
theorem zir:∀ {W:List (List UInt8 × List UInt8)},RisK W→∀ (V:List UInt8→Option (List UInt8)) (q:List UInt8),zgq V (allC W) q=(getK W q).or (V q)
 | [],_,_,_=>rfl
 | (a,x)::W,h,V,q=>by
   obtain ⟨h1,h2⟩:=h.cons
   show zgq (zfk V ⟨a,x,false⟩) (allC W) q=_
   rw[zir h2,getK]
   by_cases e:a=q
   ·subst e
    rw[zdb (fun z hz e2=>zdr (h1 z hz) e2.symm),if_pos rfl]
    simp[zfk]
   ·rw[if_neg e]
    simp[zfk,e]
theorem zis {W:List (List UInt8 × List UInt8)} (h:RisK W):zal [] (allC W)=W :=
 RisK.ext (zbw _ RisK.nil) h fun k=>by
  rw[zef _ RisK.nil,zir h]
  simp[getK]
theorem zit (V:List (List UInt8 × List UInt8)) (a b:List Chg):zal V (a++b)=zal (zal V a) b:=by unfold zal;rw[List.foldl_append]
theorem zgy {ls ls' : List (List Chg)} (h:ls.map (·.map Chg.norm)=ls'.map (·.map Chg.norm)):zal [] ls.flatten=zal [] ls'.flatten :=
 RisK.ext (zbw _ RisK.nil) (zbw _ RisK.nil) fun k=>by
  rw[zef _ RisK.nil,zef _ RisK.nil,zll _ _ h]
structure RSt where
 V:List (List UInt8 × List UInt8)
 half:Nat
 used:Nat
 moves:Nat
def zbc (l:List Chg):Nat:=1+secN (recB l).length
open Classical in
noncomputable def cmS (s:RSt) (l:List Chg):RSt × Int :=
 if ¬ MayC l then (s,2) else if l=[] then (s,0) else if s.used+zbc l≤s.half then ({ s with V:=zal s.V l,used:=s.used+zbc l },0)
 else if s.half<zbc (allC (zal s.V l))∨4096<(zal s.V l).length then (s,15) else ({ s with V:=zal s.V l,used:=zbc (allC (zal s.V l)),moves:=s.moves+1 },0)
theorem zb2 (p:Nat) (l:List Chg):zaz p l=p+zbc l:=by unfold zaz zbc;omega
structure OnS (sm:List UInt8→List UInt8) (S:List (List UInt8)) (c g:Nat) (ls:List (List Chg)) (e:Nat) (s:RSt):Prop where
 sto:StoS sm S s.half c g ls e
 V:s.V=zal [] ls.flatten
 used:e=c*s.half+s.used
 moves:g=s.moves+1
 fits:s.used≤s.half
 keys:∀ y∈s.V,1≤y.1.length∧y.1.length≤96∧y.2.length≤65536
theorem OnS.ris {sm:List UInt8→List UInt8} {S:List (List UInt8)} {c g:Nat} {ls:List (List Chg)} {e:Nat} {s:RSt} (h:OnS sm S c g ls e s):RisK s.V:=by rw[h.V];exact zbw _ RisK.nil
theorem zcc:∀ (l:List Chg) {V:List (List UInt8 × List UInt8)},(∀ c∈l,c.Ok)→(∀ y∈V,1≤y.1.length∧y.1.length≤96∧y.2.length≤65536)→∀ y∈zal V l,1≤y.1.length∧y.1.length≤96∧y.2.length≤65536
 | [],_,_,h=>h
 | c::l,V,hc,h=>zcc l (V:=zbr V c) (fun x hx=>hc x (by simp[hx])) fun y hy=>by
   unfold zbr at hy
   have hk:=hc c (by simp)
   split at hy
   ·exact h y (List.mem_filter.1 hy).1
   ·rcases zkj hy with rfl | hy
    ·exact ⟨hk.key1,hk.key2,hk.val⟩
    ·exact h y hy
theorem zkm {V:List (List UInt8 × List UInt8)} (hl:V.length≤4096) (h:∀ y∈V,1≤y.1.length∧y.1.length≤96∧y.2.length≤65536):MayC (allC V) :=
 ⟨by unfold allC;rw[List.length_map];exact hl,fun c hc=>by
  obtain ⟨y,hy,rfl⟩:=List.mem_map.1 hc
  obtain ⟨h1,h2,h3⟩:=h y hy
  exact ⟨h1,h2,h3⟩⟩
section
variable {sm:List UInt8→List UInt8} (hs:∀ b,(sm b).length=32)
include hs
theorem OnS.more {S:List (List UInt8)} {c g:Nat} {ls:List (List Chg)} {e:Nat} {s:RSt} (a:OnS sm S c g ls e s) {l:List Chg} (hm:MayC l) (hf:s.used+zbc l≤s.half) (hg:g+S.length+ls.length+1<18446744073709551616) :
  OnS sm (wrS sm S e g ls.length l) c g (ls++[l]) (zaz e l) { s with V:=zal s.V l,used:=s.used+zbc l } :=
 ⟨a.sto.more hs hm (by rw[zb2,a.used];omega) (by rw[List.length_append];simp only[List.length_cons,List.length_nil];omega),
  by simp only;rw[List.flatten_append,zit,← a.V];simp,by simp only;rw[zb2,a.used];omega,a.moves,hf,zcc l hm.2 a.keys⟩
theorem OnS.move {S:List (List UInt8)} {c g:Nat} {ls:List (List Chg)} {e:Nat} {s:RSt} (a:OnS sm S c g ls e s) {l:List Chg} (hm:MayC l) (hn:(zal s.V l).length≤4096) (hf:zbc (allC (zal s.V l))≤s.half) (hg:g+S.length+2<18446744073709551616) :
  OnS sm (wrS sm S ((1 - c)*s.half) (g+1) 0 (allC (zal s.V l))) (1 - c) (g+1) [allC (zal s.V l)] (zaz ((1 - c)*s.half) (allC (zal s.V l))) { s with V:=zal s.V l,used:=zbc (allC (zal s.V l)),moves:=s.moves+1 }:=by
 have hk:=zcc l hm.2 a.keys
 have hr:=zbw l a.ris
 exact ⟨a.sto.move hs (zkm hn hk) (by rw[zb2];omega) (by omega),by simp only[List.flatten_cons,List.flatten_nil,List.append_nil];rw[zis hr],by simp only;rw[zb2],by simp only;rw[a.moves],hf,hk⟩
theorem OnS.one {S:List (List UInt8)} {c g c' g' : Nat} {ls ls' : List (List Chg)} {e e' : Nat} {s:RSt} (a:OnS sm S c g ls e s) (b:StoS sm S s.half c' g' ls' e'):c'=c∧g'=g∧e'=e∧zal [] ls'.flatten=s.V:=by
 obtain ⟨h1,h2,h3,h4⟩:=StoS.one hs a.sto b
 exact ⟨h1.symm,h2.symm,h4.symm,by rw[a.V];exact (zgy h3).symm⟩
theorem OnS.begin {S:List (List UInt8)} {h:Nat} (hh:4≤h) (hl:2*h≤S.length) (hb:S.length<4294967296) (hn:∀ q,2≤q→∀ g n b,¬ MkS sm S[q]? g n b):OnS sm (wrS sm S 0 1 0 []) 0 1 [[]] 2 ⟨[],h,2,0⟩ :=
 ⟨StoS.begin hs hh hl hb hn,rfl,by simp,rfl,by simp only;omega,fun _ h=>by cases h⟩
end
def crC (c:Chg):List Value:=[.string (str c.key),.string (str c.value),.bool c.gone]
theorem zqz (c:Chg):∀ u∈crC c,u.oneCell'=true:=by
 intro u hu
 simp only[crC,List.mem_cons,List.not_mem_nil,or_false] at hu
 rcases hu with rfl | rfl | rfl <;> rfl
def okB (c:Chg):Bool:=decide (1≤c.key.length) && decide (c.key.length≤96) && decide (c.value.length≤65536)
theorem zm0 (c:Chg):okB c=true↔c.Ok:=by
 unfold okB
 simp only[Bool.and_eq_true,decide_eq_true_eq]
 exact ⟨fun h=>⟨h.1.1,h.1.2,h.2⟩,fun h=>⟨⟨h.key1,h.key2⟩,h.val⟩⟩
def mayB (l:List Chg):Bool:=decide (l.length≤4096) && l.all okB
theorem za5 (l:List Chg):mayB l=true↔MayC l:=by
 unfold mayB MayC
 simp only[Bool.and_eq_true,decide_eq_true_eq,List.all_eq_true]
 exact ⟨fun h=>⟨h.1,fun c hc=>(zm0 c).1 (h.2 c hc)⟩,fun h=>⟨h.1,fun c hc=>(zm0 c).2 (h.2 c hc)⟩⟩
set_option maxRecDepth 100000 in
set_option maxHeartbeats 4000000 in
theorem zpd (w:World) (co:Option Addr) (cc:Nat) (l:List Chg) (h:Rws w 3 crC co cc l) (hl:l.length≤1000000) :
  Calls Tryz.prog 32 #[.slice co l.length cc] w fun e w'=>e = .returned (.bool (mayB l))∧w'=w:=by
 obtain ⟨n,hn⟩:∃ n,n=l.length:=⟨_,rfl⟩
 rw[← hn]
 obtain ⟨HN,H⟩:=zh2 hn h
 have hn1:n≤1000000:=by omega
 clear hn h hl
 by_cases hm:4096<n
 ·have hmi:(4096:Int)<(n:Int):=by omega
  have e:mayB l=false:=by
   cases hh:mayB l with
   | false=>rfl
   | true=>have:=((za5 l).1 hh).1;have:=uh HN;omega
  rw[e]
  clear e hm
  go_enter Tryz.func32,Tryz.ntmps32
  go_wp2
  go_ret
  exact ⟨rfl,rfl⟩
 ·have hmi:¬ (4096:Int)<(n:Int):=by omega
  obtain ⟨y,hy⟩:∃ y,y=mayB l:=⟨_,rfl⟩
  rw[← hy]
  have HY:=hide hy
  clear hm hy
  go_enter Tryz.func32,Tryz.ntmps32
  go_wp2
  go_loopw [3] (fun i wr=>∃ j:Nat,i = .int .i64 j∧j≤n∧wr=w∧Hid (∀ c∈l.take j,c.Ok)) (fun i _=>n - (intOf i).toNat)
  case atStart=>exact ⟨0,rfl,Nat.zero_le _,rfl,fun c hc=>by simp at hc⟩
  case round =>
   obtain ⟨j,rfl,hj,rfl,HJ⟩:=hrel
   by_cases hlt:j<n
   ·have hji:(j:Int)<(n:Int):=by omega
    have hjw:IntKind.i64.wrap ((j:Int)+1)=(j:Int)+1:=by rw[IntKind.wrap_i64];omega
    have hjl:j<l.length:=by rw[← uh HN];exact hlt
    obtain ⟨b,o,hco,hrow⟩:=(uh H).at j hjl
    obtain ⟨c,hc⟩:∃ c,c=l[j]:=⟨_,rfl⟩
    rw[← hc] at hrow
    obtain ⟨TK,hTK⟩:∃ T,T=str c.key:=⟨_,rfl⟩
    obtain ⟨TV,hTV⟩:∃ T,T=str c.value:=⟨_,rfl⟩
    have q0:wr.cell? ⟨b,o+j*3,none⟩=some (.string TK):=by have:=hrow 0 _ rfl;rw[hTK];simpa using this
    have q1:wr.cell? ⟨b,o+j*3+1,none⟩=some (.string TV):=by have:=hrow 1 _ rfl;rw[hTV];exact this
    obtain ⟨LK,hLK⟩:∃ L,L=TK.toList:=⟨_,rfl⟩
    have hLc:LK=c.key:=by rw[hLK,hTK,zbt]
    have hLT:=hLK.symm
    have sK:TK.size=c.key.length:=by rw[hTK,zaq]
    have sV:TV.size=c.value.length:=by rw[hTV,zaq]
    have hta:=List.take_succ_eq_append_getElem hjl
    rw[← hc] at hta
    have HC:=hide hc
    clear hrow hc
    subst hco
    by_cases h0:c.key=[]
    ·have hTe:LK=[]:=by rw[hLc,h0]
     have hno:y=false:=by
      rw[uh HY]
      cases hh:mayB l with
      | false=>rfl
      | true=>have:=(((za5 l).1 hh).2 c (by rw[uh HC];exact List.getElem_mem hjl)).key1;rw[h0] at this;simp at this
     subst hno
     subst hTe
     clear hTK hTV sK sV hta h0 hLK hLc
     go_wp2
     go_ret
     exact ⟨rfl,rfl⟩
    ·have hTne:¬ LK=[]:=by rw[hLc];exact h0
     have hTne2:LK.isEmpty=false:=by cases LK with
      | nil=>exact absurd rfl hTne
      | cons a b=>rfl
     by_cases h1:96<c.key.length
     ·have h1i:(96:Int)<(TK.size:Int):=by omega
      have hno:y=false:=by
       rw[uh HY]
       cases hh:mayB l with
       | false=>rfl
       | true=>have:=(((za5 l).1 hh).2 c (by rw[uh HC];exact List.getElem_mem hjl)).key2;omega
      subst hno
      clear hTK hTV sK sV hta h0 h1 hLK hLc
      go_wp2
      go_ret
      exact ⟨rfl,rfl⟩
     ·have h1i:¬ (96:Int)<(TK.size:Int):=by omega
      by_cases h2:65536<c.value.length
      ·have h2i:(65536:Int)<(TV.size:Int):=by omega
       have hno:y=false:=by
        rw[uh HY]
        cases hh:mayB l with
        | false=>rfl
        | true=>have:=(((za5 l).1 hh).2 c (by rw[uh HC];exact List.getElem_mem hjl)).val;omega
       subst hno
       clear hTK hTV sK sV hta h0 h1 h2 hLK hLc
       go_wp2
       go_ret
       exact ⟨rfl,rfl⟩
      ·have h2i:¬ (65536:Int)<(TV.size:Int):=by omega
       have hnew:∀ x∈l.take (j+1),x.Ok:=fun x hx=>by
        rw[hta] at hx
        rcases List.mem_append.1 hx with hx | hx
        ·exact uh HJ x hx
        ·rw[List.mem_singleton.1 hx]
         exact ⟨by cases hh:c.key with
          | nil=>exact absurd hh h0
          | cons a b=>simp,by omega,by omega⟩
       have HNW:=hide hnew
       clear hTK hTV sK sV hta h0 h1 h2 hnew hLK hLc
       go_wp2
       go_roundw
       case rel=>exact ⟨j+1,by go_num,by omega,trivial,HNW⟩
       case measure=>simp[intOf];omega
   ·have hji:¬ (j:Int)<(n:Int):=by omega
    have hyt:y=true:=by
     rw[uh HY]
     refine (za5 l).2 ⟨by rw[← uh HN];omega,?_⟩
     have e:l.take j=l:=List.take_of_length_le (by rw[← uh HN];omega)
     have:=uh HJ
     rw[e] at this
     exact this
    subst hyt
    go_wp2
    go_ret
    exact ⟨rfl,rfl⟩
def zbd (c:Chg) (p:List (List UInt8 × List UInt8) × Bool) (y:List UInt8 × List UInt8):List (List UInt8 × List UInt8) × Bool :=
 let p1:=if p.2=false∧zbv c.key y.1=true then (p.1++[(c.key,c.value)],true) else p
 if y.1=c.key then p1 else (p1.1++[y],p1.2)
def zln (c:Chg) (p:List (List UInt8 × List UInt8) × Bool):List (List UInt8 × List UInt8):=if p.2=true then p.1 else p.1++[(c.key,c.value)]
theorem zho (c:Chg):∀ (V acc:List (List UInt8 × List UInt8)),V.foldl (zbd c) (acc,true)=(acc++delK V c.key,true)
 | [],acc=>by simp[delK]
 | y::V,acc=>by
   rw[List.foldl_cons]
   have e:zbd c (acc,true) y=if y.1=c.key then (acc,true) else (acc++[y],true):=by
    unfold zbd
    simp
   rw[e]
   unfold delK
   rw[List.filter_cons]
   by_cases h:y.1=c.key
   ·rw[if_pos h,zho c V acc,if_neg (by simpa using h)]
    rfl
   ·rw[if_neg h,zho c V _,if_pos (by simpa using h),List.append_assoc]
    rfl
theorem zm1 {V:List (List UInt8 × List UInt8)} {k:List UInt8} (h:∀ y∈V,y.1≠k):delK V k=V:=by
 unfold delK
 exact List.filter_eq_self.2 fun y hy=>by simpa using h y hy
theorem zlo {V:List (List UInt8 × List UInt8)} {k v:List UInt8} (h:∀ y∈V,zbv k y.1=true):putK V k v=(k,v)::V:=by
 cases V with
 | nil=>rfl
 | cons y V =>
   obtain ⟨a,x⟩:=y
   rw[putK,if_pos (h (a,x) (by simp))]
theorem zm2 (c:Chg):∀ (V acc:List (List UInt8 × List UInt8)),RisK V→zln c (V.foldl (zbd c) (acc,false))=acc++putK V c.key c.value
 | [],acc,_=>by simp[zln,putK]
 | (a,x)::V,acc,h=>by
   obtain ⟨h1,h2⟩:=h.cons
   rw[List.foldl_cons,putK]
   by_cases hk:zbv c.key a=true
   ·have hne:a≠c.key:=fun e=>zdr hk e.symm
    have e:zbd c (acc,false) (a,x)=(acc++[(c.key,c.value)]++[(a,x)],true):=by
     unfold zbd
     simp only[hk,and_self,if_true]
     rw[if_neg hne]
    rw[e,zho,if_pos hk,zm1 (fun y hy=>fun e2=>zdr (zf3 _ _ _ hk (h1 y hy)) e2.symm)]
    simp[zln]
   ·rw[if_neg hk]
    by_cases he:a=c.key
    ·have e:zbd c (acc,false) (a,x)=(acc,false):=by
      unfold zbd
      simp only[hk]
      rw[if_pos he]
      simp
     rw[e,zm2 c V acc h2,if_pos he,zlo (fun y hy=>by rw[← he];exact h1 y hy)]
    ·have e:zbd c (acc,false) (a,x)=(acc++[(a,x)],false):=by
      unfold zbd
      simp only[hk]
      rw[if_neg he]
      simp
     rw[e,zm2 c V _ h2,if_neg he]
     simp
theorem zq0 (c:Chg) {V:List (List UInt8 × List UInt8)} (h:RisK V):zln c (V.foldl (zbd c) ([],c.gone))=zbr V c:=by
 unfold zbr
 cases hg:c.gone with
 | true =>
   rw[zho]
   simp[zln]
 | false =>
   rw[zm2 c V [] h]
   simp
theorem ziu {sm:List UInt8→List UInt8} {g n:Nat} {b:List UInt8} : zsec≠za8 (zbq sm g n b):=by
 unfold zsec za8 zbq
 intro e
 have:=congrArg List.head? e
 simp at this
section
variable {sm:List UInt8→List UInt8} (hs:∀ b,(sm b).length=32)
include hs
end
end Go.Proofs.YtoilcpdhhlcidaaGreatDoor
