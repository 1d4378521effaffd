/- Lemmas. -/
import Derived.Test.YtoilcpdhhlcidaaGreatDoorCtA
import Derived.BigQuiet
import Derived.Test.YtoilcpdhhlcidaaGreatDoorMStr
namespace Go.Proofs.YtoilcpdhhlcidaaGreatDoor
open Go.RowKit
def secU (p:Nat) (b:List UInt8) (k:Nat):List (Nat × List UInt8):=(List.range k).map fun j=>(p+1+j,secB b j)
theorem zhw (p:Nat) (b:List UInt8) (k:Nat):secU p b (k+1)=secU p b k++[(p+1+k,secB b k)]:=by unfold secU;rw[List.range_succ,List.map_append];rfl
theorem zdl {S:List (List UInt8)} {p:Nat} {b:List UInt8} (hS:∀ s∈S,s.length=256):∀ k,∀ s∈zcu S p b k,s.length=256
 | 0,s,h=>hS s h
 | k+1,s,h=>by
   rw[zcu] at h
   rcases List.mem_or_eq_of_mem_set h with h | h
   ·exact zdl hS k s h
   ·rw[h];exact zcg b k
theorem zfm {S:List (List UInt8)} {p:Nat} {b:List UInt8} (hS:∀ s∈S,s.length=256):∀ k,p+1+k≤S.length→za1 (fun _=>256) 0 (secU p b k) S=zcu S p b k
 | 0,_=>rfl
 | k+1,hk=>by
   rw[zhw,zdk,zfm hS k (by omega),zgg]
   exact zjq (x:=(p+1+k,secB b k)) (zcg b k) (by rw[zbq];simp only;omega) (zdl hS k)
theorem zhx {x:List UInt8} (h:x.length=256):padS x=x:=by
 unfold padS
 rw[h]
 simp
theorem zkv {sm:List UInt8→List UInt8} (hs:∀ b,(sm b).length=32) {S:List (List UInt8)} {p g n:Nat} {l:List Chg} (hS:∀ s∈S,s.length=256) (hp:zat p l≤S.length) :
  za1 (fun _=>256) 0 [(p,za2 (zbh sm g n (recB l)))] (za1 (fun _=>256) 0 (secU p (recB l) (secN (recB l).length)) S)=wrS sm S p g n l:=by
 unfold zat at hp
 rw[zfm hS _ hp,za1,za1,zgg]
 unfold wrS
 exact zjq (x:=(p,za2 (zbh sm g n (recB l)))) (zdv (zb5 hs _ _ _)) (by rw[zbq];simp only;omega) (zdl hS _)
theorem zb8:zat 0 []=2:=rfl
theorem zjs:MayC []:=⟨Nat.zero_le _,fun _ h=>by cases h⟩
section
variable {sm:List UInt8→List UInt8} (hs:∀ b,(sm b).length=32)
include hs
theorem StoS.begin {S:List (List UInt8)} {h:Nat} (hh:4≤h) (hl:2*h≤S.length) (hb:S.length<4294967296) (hn:∀ q,2≤q→∀ g n b,¬ MkS sm S[q]? g n b):StoS sm (wrS sm S 0 1 0 []) h 0 1 [[]] 2:=by
 have hw:WholeS sm (wrS sm S 0 1 0 []) h 0 1 0 []:=zfl zjs (by rw[zb8];omega) (by omega)
 have off:∀ q,2≤q→∀ g n b,¬ MkS sm (wrS sm S 0 1 0 [])[q]? g n b:=fun q hq g n b m=>by
  rw[zbs (Or.inr (by rw[zb8];exact hq))] at m
  exact hn q hq g n b m
 refine ⟨by omega,by omega,by rw[zcj];simp;omega,by rw[zcj];exact hl,by simp,?_,?_,?_,?_⟩
 ·rw[Nat.zero_mul,Nat.zero_add]
  exact ⟨hw,rfl,fun l2 h2=>off _ (Nat.le_refl _) _ _ _ (h2.mks (by omega) (by omega))⟩
 ·intro q h1 _ g' n b m
  exact absurd m (off q h1 g' n b)
 ·intro q h1 _ g' n b m
  exact absurd m (off q (by omega) g' n b)
 ·intro q _ _ g' n b m
  by_cases hq:2≤q
  ·exact absurd m (off q hq g' n b)
  ·rcases (show q=0∨q=1 by omega) with rfl | rfl
   ·have m2:=hw.mks (by omega) (by omega)
    exact Nat.le_of_eq (m.one hs m2).1
   ·have e:=zfk (sm:=sm) (S:=S) (p:=0) (g:=1) (n:=0) (l:=[]) (by rw[zb8];omega) (i:=0) (by decide)
    rw[show (0:Nat)+1+0=1 from rfl] at e
    rw[e] at m
    have:=m.is
    injection this with this
    exact absurd this zcv
theorem StoS.there {S:List (List UInt8)} {h:Nat} (hh:4≤h) (hl:2*h≤S.length) (hb:S.length<4294967296) (hn:∀ q,2≤q→∀ g n b,¬ MkS sm S[q]? g n b) (h0:S[0]? = some (za2 (zbh sm 1 0 [0,0]))) (h1:S[1]? = some (secB [0,0] 0)):StoS sm S h 0 1 [[]] 2:=by
 have e:wrS sm S 0 1 0 []=S:=by
  apply List.ext_getElem?
  intro i
  rcases (show i=0∨i=1∨2≤i by omega) with rfl | rfl | hi
  ·rw[zjr (by rw[zb8];omega),h0];rfl
  ·have e:=zfk (sm:=sm) (S:=S) (p:=0) (g:=1) (n:=0) (l:=[]) (by rw[zb8];omega) (i:=0) (by decide)
   rw[show (0:Nat)+1+0=1 from rfl] at e
   rw[e,h1]
   rfl
  ·rw[zbs (Or.inr (by rw[zb8];exact hi))]
 have:=StoS.begin hs hh hl hb hn
 rw[e] at this
 exact this
end
def zbv (a b:List UInt8):Bool:=Op.bytesLess a b
theorem zbt (a:List UInt8):zbv a []=false:=by cases a <;> rfl
theorem zgb (c:UInt8) (r:List UInt8):zbv [] (c::r)=true:=rfl
theorem zb9 (x y:UInt8) (a b:List UInt8):zbv (x::a) (y::b)=(decide (x<y) || (x == y && zbv a b)):=rfl
theorem zhy (a:List UInt8):zbv a a=false:=by
 induction a with
 | nil=>rfl
 | cons x r ih=>rw[zb9,ih];simp[UInt8.lt_irrefl]
theorem zi6 (a:List UInt8):∀ b,zbv a b=true→zbv b a=false:=by
 induction a with
 | nil=>intro b _;exact zbt b
 | cons x r ih =>
   intro b h
   cases b with
   | nil=>rw[zbt] at h;cases h
   | cons y s =>
     rw[zb9] at h ⊢
     simp only[Bool.or_eq_true,decide_eq_true_eq,Bool.and_eq_true,beq_iff_eq] at h
     rcases h with h | ⟨rfl,h⟩
     ·have h1:¬ y<x:=by rw[UInt8.lt_iff_toNat_lt] at h ⊢;omega
      have h2:¬ y=x:=fun e=>by subst e;exact UInt8.lt_irrefl _ h
      simp[h1,h2]
     ·rw[ih s h];simp[UInt8.lt_irrefl]
theorem zi7 (a:List UInt8):∀ b,zbv a b=false→zbv b a=false→a=b:=by
 induction a with
 | nil =>
   intro b h _
   cases b with
   | nil=>rfl
   | cons y s=>cases h
 | cons x r ih =>
   intro b h k
   cases b with
   | nil=>cases k
   | cons y s =>
     rw[zb9] at h k
     simp only[Bool.or_eq_false_iff,decide_eq_false_iff_not] at h k
     have e:x=y:=by
      apply UInt8.toNat_inj.1
      have h1:=h.1;have k1:=k.1
      rw[UInt8.lt_iff_toNat_lt] at h1 k1
      omega
     subst e
     simp at h k
     rw[ih s h k]
theorem zi8 (a:List UInt8):∀ b c,zbv a b=true→zbv b c=true→zbv a c=true:=by
 induction a with
 | nil =>
   intro b c h k
   cases c with
   | nil=>rw[zbt] at k;cases k
   | cons z t=>rfl
 | cons x r ih =>
   intro b c h k
   cases b with
   | nil=>rw[zbt] at h;cases h
   | cons y s =>
     cases c with
     | nil=>rw[zbt] at k;cases k
     | cons z t =>
       rw[zb9] at h k ⊢
       simp only[Bool.or_eq_true,decide_eq_true_eq,Bool.and_eq_true,beq_iff_eq] at h k ⊢
       simp only[UInt8.lt_iff_toNat_lt] at h k ⊢
       rcases h with h | ⟨rfl,h⟩
       ·rcases k with k | ⟨rfl,k⟩
        ·left;omega
        ·left;exact h
       ·rcases k with k | ⟨rfl,k⟩
        ·left;exact k
        ·right;exact ⟨rfl,ih s t h k⟩
def zb2 (V:List (List UInt8 × List UInt8)):List (List UInt8):=V.map (·.1)
def RisK (V:List (List UInt8 × List UInt8)):Prop:=(zb2 V).Pairwise fun a b=>zbv a b=true
def getK:List (List UInt8 × List UInt8)→List UInt8→Option (List UInt8)
 | [],_=>none
 | (a,x)::V,k=>if a=k then some x else getK V k
def putK:List (List UInt8 × List UInt8)→List UInt8→List UInt8→List (List UInt8 × List UInt8)
 | [],k,v=>[(k,v)]
 | (a,x)::V,k,v=>if zbv k a=true then (k,v)::(a,x)::V else if a=k then (k,v)::V else (a,x)::putK V k v
def delK (V:List (List UInt8 × List UInt8)) (k:List UInt8):List (List UInt8 × List UInt8):=V.filter fun x=>x.1 != k
def zbn (V:List (List UInt8 × List UInt8)) (c:Chg):List (List UInt8 × List UInt8):=if c.gone then delK V c.key else putK V c.key c.value
def zaj (V:List (List UInt8 × List UInt8)) (l:List Chg):List (List UInt8 × List UInt8):=l.foldl zbn V
theorem RisK.nil:RisK []:=List.Pairwise.nil
theorem RisK.cons {a x:List UInt8} {V:List (List UInt8 × List UInt8)} (h:RisK ((a,x)::V)):(∀ y∈V,zbv a y.1=true)∧RisK V:=by
 have:=List.pairwise_cons.1 (show ((a::zb2 V).Pairwise fun a b=>zbv a b=true) from h)
 exact ⟨fun y hy=>this.1 y.1 (List.mem_map.2 ⟨y,hy,rfl⟩),this.2⟩
theorem RisK.mk' {a x:List UInt8} {V:List (List UInt8 × List UInt8)} (h1:∀ y∈V,zbv a y.1=true) (h2:RisK V):RisK ((a,x)::V) :=
 List.pairwise_cons.2 ⟨fun b hb=>by obtain ⟨y,hy,rfl⟩:=List.mem_map.1 hb;exact h1 y hy,h2⟩
theorem ze4 {a b:List UInt8} (h:zbv a b=true):a≠b:=by
 rintro rfl
 rw[zhy] at h
 cases h
theorem zcw {V:List (List UInt8 × List UInt8)} {k:List UInt8} (h:∀ y∈V,y.1≠k):getK V k=none:=by
 induction V with
 | nil=>rfl
 | cons y V ih =>
   obtain ⟨a,x⟩:=y
   rw[getK,if_neg (h (a,x) (by simp))]
   exact ih fun z hz=>h z (by simp[hz])
theorem zjt {V:List (List UInt8 × List UInt8)} {k v:List UInt8} {y:List UInt8 × List UInt8} (h:y∈putK V k v):y=(k,v)∨y∈V:=by
 induction V with
 | nil=>simp[putK] at h;exact Or.inl h
 | cons z V ih =>
   obtain ⟨a,x⟩:=z
   rw[putK] at h
   split at h
   ·rcases List.mem_cons.1 h with h | h
    ·exact Or.inl h
    ·exact Or.inr h
   ·split at h
    ·rcases List.mem_cons.1 h with h | h
     ·exact Or.inl h
     ·exact Or.inr (List.mem_cons_of_mem _ h)
    ·rcases List.mem_cons.1 h with h | h
     ·exact Or.inr (by rw[h];exact List.mem_cons_self ..)
     ·rcases ih h with h | h
      ·exact Or.inl h
      ·exact Or.inr (List.mem_cons_of_mem _ h)
theorem zju {V:List (List UInt8 × List UInt8)} (h:RisK V) (k v:List UInt8):RisK (putK V k v):=by
 induction V with
 | nil=>exact RisK.mk' (fun _ h=>by cases h) RisK.nil
 | cons z V ih =>
   obtain ⟨a,x⟩:=z
   obtain ⟨h1,h2⟩:=h.cons
   rw[putK]
   split
   ·rename_i hk
    exact RisK.mk' (fun y hy=>by
     rcases List.mem_cons.1 hy with rfl | hy
     ·exact hk
     ·exact zi8 _ _ _ hk (h1 y hy)) h
   ·rename_i hk
    split
    ·rename_i he
     subst he
     exact RisK.mk' h1 h2
    ·rename_i he
     have hka:zbv a k=true:=by
      cases hh:zbv a k with
      | true=>rfl
      | false=>exact absurd (zi7 a k hh (by simpa using hk)) he
     exact RisK.mk' (fun y hy=>by
      rcases zjt hy with rfl | hy
      ·exact hka
      ·exact h1 y hy) (ih h2)
theorem ze5 {V:List (List UInt8 × List UInt8)} (h:RisK V) (k v q:List UInt8):getK (putK V k v) q=if k=q then some v else getK V q:=by
 induction V with
 | nil=>rfl
 | cons z V ih =>
   obtain ⟨a,x⟩:=z
   obtain ⟨h1,h2⟩:=h.cons
   rw[putK]
   split
   ·rw[getK]
   ·split
    ·rename_i he
     subst he
     rw[getK,getK]
     split <;> rfl
    ·rename_i he
     rw[getK,getK,ih h2]
     by_cases e:a=q
     ·subst e
      rw[if_pos rfl,if_pos rfl,if_neg (fun e2=>he e2.symm)]
     ·rw[if_neg e,if_neg e]
theorem zjv {V:List (List UInt8 × List UInt8)} (h:RisK V) (k:List UInt8):RisK (delK V k):=by
 unfold delK RisK zb2
 rw[List.pairwise_map]
 exact List.Pairwise.filter _ (List.pairwise_map.1 h)
theorem zg6 (V:List (List UInt8 × List UInt8)) (k q:List UInt8):getK (delK V k) q=if k=q then none else getK V q:=by
 induction V with
 | nil=>simp[delK,getK]
 | cons z V ih =>
   obtain ⟨a,x⟩:=z
   unfold delK at *
   rw[List.filter_cons]
   by_cases e:a=k
   ·subst e
    rw[if_neg (by simp),ih,getK]
    split <;> rfl
   ·rw[if_pos (by simpa using e),getK,getK,ih]
    by_cases e2:a=q
    ·subst e2
     rw[if_pos rfl,if_neg (fun h=>e h.symm),if_pos rfl]
    ·rw[if_neg e2,if_neg e2]
theorem zhz {V:List (List UInt8 × List UInt8)} (h:RisK V) (c:Chg):RisK (zbn V c):=by
 unfold zbn
 split
 ·exact zjv h _
 ·exact zju h _ _
theorem zbo:∀ (l:List Chg) {V:List (List UInt8 × List UInt8)},RisK V→RisK (zaj V l)
 | [],_,h=>h
 | c::l,_,h=>zbo l (zhz h c)
theorem zl2 {V:List (List UInt8 × List UInt8)} (h:RisK V) (c:Chg):getK (zbn V c)=ze0 (getK V) c:=by
 funext q
 unfold zbn ze0
 split
 ·rename_i hg
  rw[zg6]
 ·rename_i hg
  rw[ze5 h]
theorem zdy:∀ (l:List Chg) {V:List (List UInt8 × List UInt8)},RisK V→getK (zaj V l)=zga (getK V) l
 | [],_,_=>rfl
 | c::l,V,h=>by
   show getK (zaj (zbn V c) l)=zga (ze0 (getK V) c) l
   rw[zdy l (zhz h c),zl2 h]
theorem RisK.ext:∀ {V W:List (List UInt8 × List UInt8)},RisK V→RisK W→(∀ k,getK V k=getK W k)→V=W
 | [],[],_,_,_=>rfl
 | [],(a,x)::W,_,_,h=>by have:=h a;simp[getK] at this
 | (a,x)::V,[],_,_,h=>by have:=h a;simp[getK] at this
 | (a,x)::V,(b,y)::W,hV,hW,h=>by
   obtain ⟨v1,v2⟩:=hV.cons
   obtain ⟨w1,w2⟩:=hW.cons
   have hab:a=b:=by
    apply Classical.byContradiction
    intro hne
    have ha:=h a
    have hb:=h b
    rw[getK,if_pos rfl,getK,if_neg (fun e=>hne e.symm)] at ha
    rw[getK,if_neg hne,getK,if_pos rfl] at hb
    have in1:∃ z∈W,z.1=a:=Classical.byContradiction fun hno=>by
     rw[zcw (fun z hz e=>hno ⟨z,hz,e⟩)] at ha
     cases ha
    have in2:∃ z∈V,z.1=b:=Classical.byContradiction fun hno=>by
     rw[zcw (fun z hz e=>hno ⟨z,hz,e⟩)] at hb
     cases hb
    obtain ⟨z1,hz1,e1⟩:=in1
    obtain ⟨z2,hz2,e2⟩:=in2
    have l1:=w1 z1 hz1
    have l2:=v1 z2 hz2
    rw[e1] at l1
    rw[e2] at l2
    have:=zi6 _ _ l1
    rw[l2] at this
    cases this
   subst hab
   have hx:=h a
   rw[getK,if_pos rfl,getK,if_pos rfl] at hx
   injection hx with hx
   subst hx
   rw[RisK.ext v2 w2 fun k => ?_]
   by_cases e:a=k
   ·subst e
    rw[zcw (fun z hz e2=>ze4 (v1 z hz) e2.symm),zcw (fun z hz e2=>ze4 (w1 z hz) e2.symm)]
   ·have:=h k
    rw[getK,if_neg e,getK,if_neg e] at this
    exact this
def allC (V:List (List UInt8 × List UInt8)):List Chg:=V.map fun y=>⟨y.1,y.2,false⟩
theorem zh0:∀ {W:List (List UInt8 × List UInt8)},RisK W→∀ (V:List UInt8→Option (List UInt8)) (q:List UInt8),zga V (allC W) q=(getK W q).or (V q)
 | [],_,_,_=>rfl
 | (a,x)::W,h,V,q=>by
   obtain ⟨h1,h2⟩:=h.cons
   show zga (ze0 V ⟨a,x,false⟩) (allC W) q=_
   rw[zh0 h2,getK]
   by_cases e:a=q
   ·subst e
    rw[zcw (fun z hz e2=>ze4 (h1 z hz) e2.symm),if_pos rfl]
    simp[ze0]
   ·rw[if_neg e]
    simp[ze0,e]
theorem zh1 {W:List (List UInt8 × List UInt8)} (h:RisK W):zaj [] (allC W)=W :=
 RisK.ext (zbo _ RisK.nil) h fun k=>by
  rw[zdy _ RisK.nil,zh0 h]
  simp[getK]
theorem zh7 (V:List (List UInt8 × List UInt8)) (a b:List Chg):zaj V (a++b)=zaj (zaj V a) b:=by unfold zaj;rw[List.foldl_append]
theorem zgi {ls ls' : List (List Chg)} (h:ls.map (·.map Chg.norm)=ls'.map (·.map Chg.norm)):zaj [] ls.flatten=zaj [] ls'.flatten :=
 RisK.ext (zbo _ RisK.nil) (zbo _ RisK.nil) fun k=>by
  rw[zdy _ RisK.nil,zdy _ RisK.nil,zku _ _ h]
structure RSt where
 V:List (List UInt8 × List UInt8)
 half:Nat
 used:Nat
 moves:Nat
def za9 (l:List Chg):Nat:=1+secN (recB l).length
open Classical in
noncomputable def cmS (s:RSt) (l:List Chg):RSt × Int :=
 if ¬ MayC l then (s,2) else if l=[] then (s,0) else if s.used+za9 l≤s.half then ({ s with V:=zaj s.V l,used:=s.used+za9 l },0)
 else if s.half<za9 (allC (zaj s.V l))∨4096<(zaj s.V l).length then (s,15) else ({ s with V:=zaj s.V l,used:=za9 (allC (zaj s.V l)),moves:=s.moves+1 },0)
theorem zbl (p:Nat) (l:List Chg):zat p l=p+za9 l:=by unfold zat za9;omega
structure OnS (sm:List UInt8→List UInt8) (S:List (List UInt8)) (c g:Nat) (ls:List (List Chg)) (e:Nat) (s:RSt):Prop where
 sto:StoS sm S s.half c g ls e
 V:s.V=zaj [] ls.flatten
 used:e=c*s.half+s.used
 moves:g=s.moves+1
 fits:s.used≤s.half
 keys:∀ y∈s.V,1≤y.1.length∧y.1.length≤96∧y.2.length≤65536
theorem OnS.ris {sm:List UInt8→List UInt8} {S:List (List UInt8)} {c g:Nat} {ls:List (List Chg)} {e:Nat} {s:RSt} (h:OnS sm S c g ls e s):RisK s.V:=by rw[h.V];exact zbo _ RisK.nil
theorem zca:∀ (l:List Chg) {V:List (List UInt8 × List UInt8)},(∀ c∈l,c.Ok)→(∀ y∈V,1≤y.1.length∧y.1.length≤96∧y.2.length≤65536)→∀ y∈zaj V l,1≤y.1.length∧y.1.length≤96∧y.2.length≤65536
 | [],_,_,h=>h
 | c::l,V,hc,h=>zca l (V:=zbn V c) (fun x hx=>hc x (by simp[hx])) fun y hy=>by
   unfold zbn at hy
   have hk:=hc c (by simp)
   split at hy
   ·exact h y (List.mem_filter.1 hy).1
   ·rcases zjt hy with rfl | hy
    ·exact ⟨hk.key1,hk.key2,hk.val⟩
    ·exact h y hy
theorem zjw {V:List (List UInt8 × List UInt8)} (hl:V.length≤4096) (h:∀ y∈V,1≤y.1.length∧y.1.length≤96∧y.2.length≤65536):MayC (allC V) :=
 ⟨by unfold allC;rw[List.length_map];exact hl,fun c hc=>by
  obtain ⟨y,hy,rfl⟩:=List.mem_map.1 hc
  obtain ⟨h1,h2,h3⟩:=h y hy
  exact ⟨h1,h2,h3⟩⟩
section
variable {sm:List UInt8→List UInt8} (hs:∀ b,(sm b).length=32)
include hs
theorem OnS.more {S:List (List UInt8)} {c g:Nat} {ls:List (List Chg)} {e:Nat} {s:RSt} (a:OnS sm S c g ls e s) {l:List Chg} (hm:MayC l) (hf:s.used+za9 l≤s.half) (hg:g+S.length+ls.length+1<18446744073709551616) :
  OnS sm (wrS sm S e g ls.length l) c g (ls++[l]) (zat e l) { s with V:=zaj s.V l,used:=s.used+za9 l } :=
 ⟨a.sto.more hs hm (by rw[zbl,a.used];omega) (by rw[List.length_append];simp only[List.length_cons,List.length_nil];omega),
  by simp only;rw[List.flatten_append,zh7,← a.V];simp,by simp only;rw[zbl,a.used];omega,a.moves,hf,zca l hm.2 a.keys⟩
theorem OnS.move {S:List (List UInt8)} {c g:Nat} {ls:List (List Chg)} {e:Nat} {s:RSt} (a:OnS sm S c g ls e s) {l:List Chg} (hm:MayC l) (hn:(zaj s.V l).length≤4096) (hf:za9 (allC (zaj s.V l))≤s.half) (hg:g+S.length+2<18446744073709551616) :
  OnS sm (wrS sm S ((1 - c)*s.half) (g+1) 0 (allC (zaj s.V l))) (1 - c) (g+1) [allC (zaj s.V l)] (zat ((1 - c)*s.half) (allC (zaj s.V l))) { s with V:=zaj s.V l,used:=za9 (allC (zaj s.V l)),moves:=s.moves+1 }:=by
 have hk:=zca l hm.2 a.keys
 have hr:=zbo l a.ris
 exact ⟨a.sto.move hs (zjw hn hk) (by rw[zbl];omega) (by omega),by simp only[List.flatten_cons,List.flatten_nil,List.append_nil];rw[zh1 hr],by simp only;rw[zbl],by simp only;rw[a.moves],hf,hk⟩
theorem OnS.one {S:List (List UInt8)} {c g c' g' : Nat} {ls ls' : List (List Chg)} {e e' : Nat} {s:RSt} (a:OnS sm S c g ls e s) (b:StoS sm S s.half c' g' ls' e'):c'=c∧g'=g∧e'=e∧zaj [] ls'.flatten=s.V:=by
 obtain ⟨h1,h2,h3,h4⟩:=StoS.one hs a.sto b
 exact ⟨h1.symm,h2.symm,h4.symm,by rw[a.V];exact (zgi h3).symm⟩
theorem OnS.begin {S:List (List UInt8)} {h:Nat} (hh:4≤h) (hl:2*h≤S.length) (hb:S.length<4294967296) (hn:∀ q,2≤q→∀ g n b,¬ MkS sm S[q]? g n b):OnS sm (wrS sm S 0 1 0 []) 0 1 [[]] 2 ⟨[],h,2,0⟩ :=
 ⟨StoS.begin hs hh hl hb hn,rfl,by simp,rfl,by simp only;omega,fun _ h=>by cases h⟩
end
def crC (c:Chg):List Value:=[.string (str c.key),.string (str c.value),.bool c.gone]
def okB (c:Chg):Bool:=decide (1≤c.key.length) && decide (c.key.length≤96) && decide (c.value.length≤65536)
theorem zl3 (c:Chg):okB c=true↔c.Ok:=by
 unfold okB
 simp only[Bool.and_eq_true,decide_eq_true_eq]
 exact ⟨fun h=>⟨h.1.1,h.1.2,h.2⟩,fun h=>⟨⟨h.key1,h.key2⟩,h.val⟩⟩
def mayB (l:List Chg):Bool:=decide (l.length≤4096) && l.all okB
theorem zbi (l:List Chg):mayB l=true↔MayC l:=by
 unfold mayB MayC
 simp only[Bool.and_eq_true,decide_eq_true_eq,List.all_eq_true]
 exact ⟨fun h=>⟨h.1,fun c hc=>(zl3 c).1 (h.2 c hc)⟩,fun h=>⟨h.1,fun c hc=>(zl3 c).2 (h.2 c hc)⟩⟩
end Go.Proofs.YtoilcpdhhlcidaaGreatDoor
