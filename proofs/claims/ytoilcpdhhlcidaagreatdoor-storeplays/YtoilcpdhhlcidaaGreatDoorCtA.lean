/- Lemmas. -/
import Derived.Test.YtoilcpdhhlcidaaGreatDoorMRo0
import Derived.Laws.AppendOwnNone
import Derived.Deep.AppendLies
import Derived.Deep.RegionHeld3
import Derived.Deep.DrawnRows
namespace Go.Proofs.YtoilcpdhhlcidaaGreatDoor
open Go.RowKit
def zc8 (S:List (List UInt8)) (p:Nat) (b:List UInt8):Nat→List (List UInt8)
 | 0=>S
 | k+1=>(zc8 S p b k).set (p+1+k) (secB b k)
def wrS (sm:List UInt8→List UInt8) (S:List (List UInt8)) (p g n:Nat) (l:List Chg):List (List UInt8):=(zc8 S p (recB l) (secN (recB l).length)).set p (za8 (zbq sm g n (recB l)))
theorem zcb (S:List (List UInt8)) (p:Nat) (b:List UInt8):∀ k,(zc8 S p b k).length=S.length
 | 0=>rfl
 | k+1=>by rw[zc8,List.length_set,zcb S p b k]
theorem zgx (S:List (List UInt8)) (p:Nat) (b:List UInt8) (q:Nat):∀ k,(q≤p∨p+1+k≤q)→(zc8 S p b k)[q]? = S[q]?
 | 0,_=>rfl
 | k+1,h=>by
   rw[zc8,List.getElem?_set_ne (by omega)]
   exact zgx S p b q k (by omega)
theorem zil (S:List (List UInt8)) (p:Nat) (b:List UInt8):∀ k,p+1+k≤S.length→∀ i,i<k→(zc8 S p b k)[p+1+i]? = some (secB b i)
 | 0,_,i,hi=>by omega
 | k+1,hk,i,hi=>by
   rw[zc8]
   by_cases e:i=k
   ·subst e
    rw[List.getElem?_set_self (by rw[zcb];omega)]
   ·rw[List.getElem?_set_ne (by omega)]
    exact zil S p b k (by omega) i (by omega)
section
variable {sm:List UInt8→List UInt8} {S:List (List UInt8)} {p g n:Nat} {l:List Chg}
theorem zc0:(wrS sm S p g n l).length=S.length:=by unfold wrS;rw[List.length_set,zcb]
theorem zkh (hp:zaz p l≤S.length):(wrS sm S p g n l)[p]? = some (za8 (zbq sm g n (recB l))):=by
 unfold wrS
 rw[List.getElem?_set_self (by rw[zcb];unfold zaz at hp;omega)]
theorem zfz (hp:zaz p l≤S.length) {i:Nat} (hi:i<secN (recB l).length):(wrS sm S p g n l)[p+1+i]? = some (secB (recB l) i):=by
 unfold wrS
 rw[List.getElem?_set_ne (by omega)]
 exact zil _ _ _ _ (by unfold zaz at hp;omega) i hi
theorem zcd {q:Nat} (hq:q<p∨zaz p l≤q):(wrS sm S p g n l)[q]? = S[q]? := by
 unfold wrS zaz at *
 rw[List.getElem?_set_ne (by omega)]
 exact zgx _ _ _ _ _ (by omega)
theorem zf0 {hi:Nat} (hm:MayC l) (hp:zaz p l≤hi) (hh:hi≤S.length):WholeS sm (wrS sm S p g n l) hi p g n l :=
 ⟨hm,zkh (by omega),hp,fun _ hi=>zfz (by omega) hi⟩
end
theorem zc9 {sm:List UInt8→List UInt8} {b b' : List UInt8} {i g n:Nat} : secB b i≠za8 (zbq sm g n b'):=by
 unfold secB za8 zbq
 intro e
 have:=congrArg List.head? e
 simp at this
structure MkS (sm:List UInt8→List UInt8) (X:Option (List UInt8)) (g n:Nat) (b:List UInt8):Prop where
 is:X=some (za8 (zbq sm g n b))
 g64:g<18446744073709551616
 n64:n<18446744073709551616
 b32:b.length<4294967296
theorem MkS.one {sm:List UInt8→List UInt8} (hs:∀ b,(sm b).length=32) {X:Option (List UInt8)} {g g' n n' : Nat} {b b' : List UInt8} (h:MkS sm X g n b) (h' : MkS sm X g' n' b'):g=g'∧n=n':=by
 have e1:=h.is.symm.trans h'.is
 injection e1 with e1
 have e2:=zij (zcm hs _ _ _) (zcm hs _ _ _) e1
 have e3:=zik hs h.g64 h'.g64 h.n64 h'.n64 h.b32 h'.b32 e2
 exact ⟨e3.1,e3.2.1⟩
theorem WholeS.mks {sm:List UInt8→List UInt8} {S:List (List UInt8)} {hi p g n:Nat} {l:List Chg} (h:WholeS sm S hi p g n l) (hg:g<18446744073709551616) (hn:n<18446744073709551616):MkS sm S[p]? g n (recB l):=⟨h.mark,hg,hn,zcy h.may⟩
structure StoS (sm:List UInt8→List UInt8) (S:List (List UInt8)) (h c g:Nat) (ls:List (List Chg)) (e:Nat):Prop where
 c01:c≤1
 g1:1≤g
 g64:g+S.length+ls.length<18446744073709551616
 len:2*h≤S.length
 ne:ls≠[]
 recs:zbm sm S (c*h+h) g (c*h) 0 ls e
 clean:∀ q,e≤q→q<c*h+h→∀ g' n b,MkS sm S[q]? g' n b→g'<g
 old:∀ q,(1 - c)*h≤q→q<(1 - c)*h+h→∀ g' n b,MkS sm S[q]? g' n b→g'<g
 mine:∀ q,c*h≤q→q<c*h+h→∀ g' n b,MkS sm S[q]? g' n b→g'≤g
section
variable {sm:List UInt8→List UInt8} (hs:∀ b,(sm b).length=32)
include hs
theorem StoS.one {S:List (List UInt8)} {h c g c' g' : Nat} {ls ls' : List (List Chg)} {e e' : Nat} (a:StoS sm S h c g ls e) (b:StoS sm S h c' g' ls' e'):c=c'∧g=g'∧ls.map (·.map Chg.norm)=ls'.map (·.map Chg.norm)∧e=e':=by
 have ha:=a.g64
 have hb:=b.g64
 obtain ⟨l,ls0,rfl⟩:=List.exists_cons_of_ne_nil a.ne
 obtain ⟨l',ls0',rfl⟩:=List.exists_cons_of_ne_nil b.ne
 have ma:=a.recs.1.mks (by omega) (by omega)
 have mb:=b.recs.1.mks (by omega) (by omega)
 have pos:∀ {p:Nat} {l:List Chg},p<zaz p l:=fun {p l}=>by unfold zaz;omega
 have fa:=a.recs.1.fits
 have fb:=b.recs.1.fits
 have hc:c=c':=by
  have h1:=a.c01
  have h2:=b.c01
  apply Classical.byContradiction
  intro hne
  have e1:c'=1 - c:=by omega
  have e2:c=1 - c':=by omega
  have k1:=a.old (c'*h) (by rw[e1];exact Nat.le_refl _) (by rw[← e1];omega) _ _ _ mb
  have k2:=b.old (c*h) (by rw[← e2];exact Nat.le_refl _) (by rw[← e2];omega) _ _ _ ma
  omega
 subst hc
 have hg:=(ma.one hs mb).1
 subst hg
 obtain ⟨h1,h2⟩:=zbm.one hs (by omega) (by omega) (by omega) a.recs b.recs
 exact ⟨rfl,rfl,h1,h2⟩
theorem StoS.more {S:List (List UInt8)} {h c g:Nat} {ls:List (List Chg)} {e:Nat} (a:StoS sm S h c g ls e) {l:List Chg} (hm:MayC l) (hf:zaz e l≤c*h+h) (hg:g+S.length+(ls++[l]).length<18446744073709551616) :
  StoS sm (wrS sm S e g ls.length l) h c g (ls++[l]) (zaz e l):=by
 have hle:=zbm.le a.recs
 have hlen:=a.len
 have hc:=a.c01
 have hhi:c*h+h≤S.length:=by rcases (show c=0∨c=1 by omega) with rfl | rfl <;> omega
 have hnx:e<zaz e l:=by unfold zaz;omega
 have hw:WholeS sm (wrS sm S e g ls.length l) (c*h+h) e g ls.length l:=zf0 hm hf hhi
 rw[List.length_append] at hg
 simp only[List.length_cons,List.length_nil] at hg
 refine ⟨hc,a.g1,by rw[zc0,List.length_append];simpa using hg,by rw[zc0];exact hlen,by simp,?_,?_,?_,?_⟩
 ·refine zbm.snoc a.recs (fun q _ h2=>zcd (Or.inl h2)) (by simpa using hw) ?_
  intro l2 h2
  have hfit:=h2.fits
  have m2:=h2.mks (by omega) (by omega)
  rw[zcd (Or.inr (Nat.le_refl _))] at m2
  have:=a.clean (zaz e l) (by omega) (by omega) _ _ _ m2
  omega
 ·intro q h1 h2 g' n b m
  rw[zcd (Or.inr h1)] at m
  exact a.clean q (by omega) h2 _ _ _ m
 ·intro q h1 h2 g' n b m
  rw[zcd (by rcases (show c=0∨c=1 by omega) with rfl | rfl <;> omega)] at m
  exact a.old q h1 h2 _ _ _ m
 ·intro q h1 h2 g' n b m
  by_cases hq:q<e∨zaz e l≤q
  ·rw[zcd hq] at m
   exact a.mine q h1 h2 _ _ _ m
  ·by_cases hqe:q=e
   ·subst hqe
    have m2:=hw.mks (by omega) (by omega)
    have:=(m.one hs m2).1
    omega
   ·have e1:q=e+1+(q - e - 1):=by omega
    have hi:q - e - 1<secN (recB l).length:=by unfold zaz at hq;omega
    rw[e1,zfz (by omega) hi] at m
    have:=m.is
    injection this with this
    exact absurd this zc9
theorem StoS.move {S:List (List UInt8)} {h c g:Nat} {ls:List (List Chg)} {e:Nat} (a:StoS sm S h c g ls e) {l:List Chg} (hm:MayC l) (hf:zaz ((1 - c)*h) l≤(1 - c)*h+h) (hg:g+1+S.length+1<18446744073709551616) :
  StoS sm (wrS sm S ((1 - c)*h) (g+1) 0 l) h (1 - c) (g+1) [l] (zaz ((1 - c)*h) l):=by
 have hlen:=a.len
 have hc:=a.c01
 obtain ⟨p,hp⟩:∃ p,p=(1 - c)*h:=⟨_,rfl⟩
 rw[← hp] at hf ⊢
 have hhi:p+h≤S.length:=by rcases (show c=0∨c=1 by omega) with rfl | rfl <;> omega
 have hnx:p<zaz p l:=by unfold zaz;omega
 have hw:WholeS sm (wrS sm S p (g+1) 0 l) (p+h) p (g+1) 0 l:=zf0 hm hf hhi
 have hcc:1 - (1 - c)=c:=by omega
 refine ⟨by omega,by omega,by rw[zc0];simpa using hg,by rw[zc0];exact hlen,by simp,?_,?_,?_,?_⟩
 ·rw[← hp]
  refine ⟨hw,rfl,?_⟩
  intro l2 h2
  have hfit:=h2.fits
  have m2:=h2.mks (by omega) (by omega)
  rw[zcd (Or.inr (Nat.le_refl _))] at m2
  have:=a.old (zaz p l) (by omega) (by omega) _ _ _ m2
  omega
 ·intro q h1 h2 g' n b m
  rw[← hp] at h2
  rw[zcd (Or.inr h1)] at m
  have:=a.old q (by omega) (by omega) _ _ _ m
  omega
 ·intro q h1 h2 g' n b m
  rw[hcc] at h1 h2
  rw[zcd (by rcases (show c=0∨c=1 by omega) with rfl | rfl <;> omega)] at m
  have:=a.mine q h1 h2 _ _ _ m
  omega
 ·intro q h1 h2 g' n b m
  rw[← hp] at h1 h2
  by_cases hq:zaz p l≤q
  ·rw[zcd (Or.inr hq)] at m
   have:=a.old q (by omega) (by omega) _ _ _ m
   omega
  ·by_cases hqe:q=p
   ·subst hqe
    have m2:=hw.mks (by omega) (by omega)
    have:=(m.one hs m2).1
    omega
   ·have e1:q=p+1+(q - p - 1):=by omega
    have hi:q - p - 1<secN (recB l).length:=by unfold zaz at hq;omega
    rw[e1,zfz (by omega) hi] at m
    have:=m.is
    injection this with this
    exact absurd this zc9
end
structure Rws {α:Type} (w:World) (K:Nat) (f:α→List Value) (ao:Option Addr) (c:Nat) (L:List α):Prop where
 zip:ao=none→L.length=0∧c=0
 fits:L.length≤c
 most:c≤maxLen
 spot:∀ ad,ao=some ad→ad.spot=none
 row:∀ ad,ao=some ad→∀ i (h:i<L.length),w.rangeAt ad.block (ad.off+i*K) (f L[i])
theorem Rws.kept {α:Type} {w a:World} {K:Nat} {f:α→List Value} {ao:Option Addr} {c:Nat} {L:List α} (h:Rws w K f ao c L) (g:w.grownBy a none):Rws a K f ao c L :=
 ⟨h.zip,h.fits,h.most,h.spot,fun ad e i hi=>zak (h.row ad e i hi) g (by simp)⟩
theorem Rws.own {α:Type} (f:α→List Value) {w:World} {K base:Nat} {t:TypeId} {v:Value} {L:List α} (h:w.ownsRow base t K v L.length (L.flatMap f)) (hf:∀ x∈L,(f x).length=K):∃ ao c,v = .slice ao L.length c∧Rws w K f ao c L∧∀ ad,ao=some ad→base≤ad.block:=by
 obtain ⟨ao,c,h1,h2,h3,h4,h5,h6⟩:=zpb f K h hf
 exact ⟨ao,c,h1,⟨h2,h3,h4,fun ad e=>(h5 ad e).1,h6⟩,fun ad e=>(h5 ad e).2⟩
theorem Rws.at {α:Type} {w:World} {K:Nat} {f:α→List Value} {ao:Option Addr} {c:Nat} {L:List α} (h:Rws w K f ao c L) (i:Nat) (hi:i<L.length):∃ b o,ao=some ⟨b,o,none⟩∧w.rangeAt b (o+i*K) (f L[i]):=by
 cases ao with
 | none=>have:=(h.zip rfl).1;omega
 | some ad =>
   have hs:=h.spot ad rfl
   have hc:=h.row ad rfl i hi
   obtain ⟨b,o,s⟩:=ad
   simp only at hs hc
   subst hs
   exact ⟨b,o,rfl,hc⟩
theorem Rws.take {α:Type} {w:World} {K:Nat} {f:α→List Value} {ao:Option Addr} {c:Nat} {L:List α} (h:Rws w K f ao c L) (n:Nat):Rws w K f ao c (L.take n):=by
 refine ⟨(fun e => ?_),?_,h.most,h.spot,(fun ad e i hi => ?_)⟩
 ·have:=h.zip e
  exact ⟨by rw[List.length_take];omega,this.2⟩
 ·have:=h.fits;rw[List.length_take];omega
 ·have hi' : i<L.length:=by simp at hi;omega
  have:=h.row ad e i hi'
  simpa using this
def cutK (ao:Option Addr) (c n K:Nat):Option Addr:=if c=n then ao else ao.map (·.add (n*K))
theorem Rws.drop {α:Type} {w:World} {K:Nat} {f:α→List Value} {ao:Option Addr} {c:Nat} {L:List α} (h:Rws w K f ao c L) (n:Nat) (hn:n≤L.length):Rws w K f (cutK ao c n K) (c - n) (L.drop n):=by
 have hf:=h.fits
 have hm:=h.most
 unfold cutK
 split
 ·rename_i hc
  have hl:L.drop n=[]:=List.drop_of_length_le (by omega)
  rw[hl,hc]
  exact ⟨fun _=>⟨rfl,by omega⟩,Nat.zero_le _,by omega,h.spot,fun ad e i hi=>by simp at hi⟩
 ·cases ao with
  | none=>have:=h.zip rfl;omega
  | some ad =>
    have hs:=h.spot ad rfl
    have hr:=h.row ad rfl
    obtain ⟨b,o,s⟩:=ad
    simp only at hs hr
    subst hs
    rw[Option.map_some,Addr.add_lit]
    refine ⟨(fun e=>by cases e),by simp;omega,by omega,(fun ad e=>by cases e;rfl),fun ad e i hi => ?_⟩
    cases e
    have hi' : n+i<L.length:=by simp at hi;omega
    have:=hr (n+i) hi'
    rw[List.getElem_drop]
    rw[Nat.add_mul,← Nat.add_assoc] at this
    exact this
theorem zjr {P:Program} (W:World) (t e:TypeId) (K:Nat) (ht:P.underlying t=some (.slice e)) (hz:∀ w,(Go.sizeOf e).run P w = .ok K w) (ao:Option Addr) (n c k:Nat) (hk:k≤n) :
  (Instr.slice t (.slice ao n c) (some (.int .i64 (k:Int))) none none).run P W = .ok (.slice (cutK ao c k K) (n - k) (c - k)) W:=by
 have ht' : P.underlying t=some (.slice (P.elem t)):=by simp[Program.elem,ht]
 have he:P.elem t=e:=by simp[Program.elem,ht]
 rw[run_slice_l W t _ _ _ ht' .i64 _ (by omega) (by omega),he,hz]
 simp[Result.andThen,sliced,cutK]
theorem zim {α:Type} (f:α→List Value) (hf:∀ x,∀ u∈f x,u.oneCell'=true) (L:List α):∀ u∈L.flatMap f,u.oneCell'=true:=by
 intro u hu
 obtain ⟨x,_,h⟩:=List.mem_flatMap.1 hu
 exact hf x u h
theorem zb8 {α:Type} {w:World} {o:Oper} {a:Act} {K9:Act→World→Prop} {Q:Exit→Act→World→Prop} (s x:Operand) (t e:TypeId)
  (ho:o.op = .call { callee := .builtin .append,args := #[s,x],argTypes := #[t,t] })
  (i0:TypeInfo) (z:Value) (K bytes:Nat) (ht:Tryz.prog.underlying t=some (.slice e)) (hi:Tryz.prog.info? e=some i0) (hz:i0.zero=some z) (hz1:i0.size=K) (hz2:i0.bytes=bytes) (hzs:z.cells.size=K) (hK:0<K)
  (f:α→List Value) (hf1:∀ x,∀ u∈f x,u.oneCell'=true)
  (base:Nat) (v:Value) (L M:List α) (hfM:∀ x∈M,(f x).length=K) (hs:a.eval s=v) (hown:w.ownsRow base e K v L.length (L.flatMap f)) (xo:Option Addr) (m c:Nat) (hx:a.eval x = .slice xo m c) (hm:m=M.length) (hM:Rws w K f xo c M)
  (hn:(L.length+M.length)*bytes≤140737488355328) (hn2:L.length+M.length≤140737488355328) (hbase:base≤w.heap.size)
  (h:∀ v' w',w'.ownsRow base e K v' (L++M).length ((L++M).flatMap f)→w.grownBy w' v.ownBlock→K9 (a.put o.dst v') w'):o.wp Tryz.prog a w K9 Q:=by
 subst hm
 cases xo with
 | none =>
   obtain ⟨h1,h2⟩:=hM.zip rfl
   have h0:M=[]:=List.eq_nil_of_length_eq_zero h1
   subst h0
   subst h2
   have hrun:=run_append_owned_none (P:=Tryz.prog) (w:=w) base t o.type e i0 K ht hi v L.length (L.flatMap f) hown
   have hfin:=h v w (by simpa using hown) (zac _ _)
   unfold Oper.wp
   simp[execOp,ho,resolve,invoke,builtin,hs,hx,hrun,Result.andThen]
   exact hfin
 | some ad =>
   have hsp:=hM.spot ad rfl
   have hr:=hM.row ad rfl
   obtain ⟨b,p,sp⟩:=ad
   simp only at hsp hr
   subst hsp
   refine wp_append_own w s x t ho base e i0 z K bytes ht hi hz hz1 hz2 hzs hK v L.length (L.flatMap f) hs hown ⟨b,p,none⟩ M.length c (M.flatMap f) hx (zee f K M hfM) ?_ (zim f hf1 M) (by unfold maxLen;omega) hn hbase (fun v' w' q1 q2 _=>h v' w' (by simpa using q1) q2)
   intro j u hu
   have hjl:j<M.length*K:=by
    have:=(List.getElem?_eq_some_iff.1 hu).1
    rwa [zee f K M hfM] at this
   have hq:j / K<M.length:=Nat.div_lt_of_lt_mul (by rwa [Nat.mul_comm] at hjl)
   have hmod:=Nat.mod_lt j hK
   have hj:j=j / K*K+j % K:=by have:=Nat.div_add_mod j K;rw[Nat.mul_comm] at this;omega
   rw[hj,zmy f K M hfM (j / K) (j % K) hq hmod] at hu
   have:=hr (j / K) hq (j % K) u hu
   rw[Addr.add_lit,show p+j=p+j / K*K+j % K by omega]
   exact this
def cl1 (v:Value):List Value:=[v]
theorem zpc (L:List Value):L.flatMap cl1=L:=by induction L <;> simp_all [cl1]
def Cel (w:World) (ao:Option Addr) (c:Nat) (L:List Value):Prop:=Rws w 1 cl1 ao c L∧∀ v∈L,v.oneCell'=true
structure Cel0 (w:World) (ao:Option Addr) (c:Nat) (L:List Value):Prop where
 zip:ao=none→L.length=0∧c=0
 news:∀ ad,ao=some ad→∀ j u,L[j]? = some u→w.cell? (ad.add j)=some u
 one:∀ v∈L,v.oneCell'=true
theorem Cel.kept {w a:World} {ao:Option Addr} {c:Nat} {L:List Value} (h:Cel w ao c L) (g:w.grownBy a none):Cel a ao c L:=⟨h.1.kept g,h.2⟩
theorem Cel.at {w:World} {ao:Option Addr} {c:Nat} {L:List Value} (h:Cel w ao c L) (i:Nat) (hi:i<L.length):∃ b o,ao=some ⟨b,o,none⟩∧w.cell? ⟨b,o+i,none⟩=some L[i]:=by
 obtain ⟨b,o,e,hr⟩:=h.1.at i hi
 refine ⟨b,o,e,?_⟩
 have:=hr 0 L[i] rfl
 simpa using this
theorem Cel.own {w:World} {base:Nat} {t:TypeId} {v:Value} {L:List Value} (h:w.ownsRow base t 1 v L.length L) (ho:∀ v∈L,v.oneCell'=true):∃ ao c,v = .slice ao L.length c∧Cel w ao c L∧∀ ad,ao=some ad→base≤ad.block:=by
 have h2:w.ownsRow base t 1 v L.length (L.flatMap cl1):=by rw[zpc];exact h
 obtain ⟨ao,c,h1,h3,h4⟩:=Rws.own cl1 h2 (fun _ _=>rfl)
 exact ⟨ao,c,h1,⟨h3,ho⟩,h4⟩
theorem Cel.take {w:World} {ao:Option Addr} {c:Nat} {L:List Value} (h:Cel w ao c L) (n:Nat):Cel w ao c (L.take n):=⟨h.1.take n,fun v hv=>h.2 v (List.mem_of_mem_take hv)⟩
theorem Cel.drop {w:World} {ao:Option Addr} {c:Nat} {L:List Value} (h:Cel w ao c L) (n:Nat) (hn:n≤L.length):Cel w (cutK ao c n 1) (c - n) (L.drop n):=⟨h.1.drop n hn,fun v hv=>h.2 v (List.mem_of_mem_drop hv)⟩
theorem Cel.nil (w:World):Cel w none 0 []:=⟨⟨fun _=>⟨rfl,rfl⟩,Nat.le_refl _,Nat.zero_le _,(fun _ e=>by cases e),(fun _ e=>by cases e)⟩,fun _ h=>by cases h⟩
theorem Cel0.kept {w a:World} {ao:Option Addr} {c:Nat} {L:List Value} (h:Cel0 w ao c L) (g:w.grownBy a none):Cel0 a ao c L :=
 ⟨h.zip,fun ad e j u hu=>g.cell (h.news ad e j u hu) (by simp),h.one⟩
theorem Cel.zero {w:World} {ao:Option Addr} {c:Nat} {L:List Value} (h:Cel w ao c L):Cel0 w ao c L:=by
 refine ⟨h.1.zip,fun ad e j u hu => ?_,h.2⟩
 obtain ⟨hj,rfl⟩:=List.getElem?_eq_some_iff.1 hu
 obtain ⟨b',o',e',hc'⟩:=h.at j hj
 rw[e] at e'
 cases e'
 rw[Addr.add_lit]
 exact hc'
theorem zco {w:World} {ops:Array Oper} {rest:List Oper} {o:Oper} {a:Act} {Q:Exit→Act→World→Prop} (hgd:o.guard=none) (s x:Operand) (t e:TypeId) (z:Value) (bytes:Nat) (ht:Tryz.prog.underlying t=some (.slice e)) (hi:(Tryz.prog.info? e).map (fun i=>(i.zero,i.size,i.bytes))=some (some z,1,bytes)) (hzc:z.cells.size=1)
  (ho:o.op = .call { callee := .builtin .append,args := #[s,x],argTypes := #[t,t] })
  (base:Nat) (v:Value) (n:Nat) (xs:List Value) (hs:a.eval s=v) (hown:w.ownsRow base e 1 v n xs)
  (ao:Option Addr) (c:Nat) (L:List Value) (hb:Cel0 w ao c L) (m:Nat) (hm:m=L.length) (hx:a.eval x = .slice ao m c) (hn:(n+m)*bytes≤140737488355328) (hn2:n+m≤maxLen) (hbase:base≤w.heap.size)
  (h:∀ v' w',w'.ownsRow base e 1 v' (n+m) (xs++L)→w.grownBy w' v.ownBlock→wpList Tryz.prog ops Q rest (a.put o.dst v') w'):wpList Tryz.prog ops Q (o::rest) a w:=by
 subst hm
 obtain ⟨i0,hi,hz0,hz1,hz2⟩:=info_parts hi
 cases ao with
 | none =>
   have hz:=hb.zip rfl
   have hx0:L=[]:=List.eq_nil_of_length_eq_zero hz.1
   have hc0:=hz.2
   subst hx0 hc0
   exact wpList_append_own_none hgd s x t ho base e i0 1 ht hi v n xs hs hown hx (h v w (by simpa using hown) (zac _ _))
 | some ad =>
   exact wpList_append_own w hgd s x t ho base e i0 z 1 bytes ht hi hz0 hz1 hz2 hzc (by decide) v n xs hs hown ad L.length c L hx (by simp) (hb.news ad rfl) hb.one hn2 hn hbase (fun v' w' q1 q2 _=>h v' w' q1 q2)
inductive Prts (w:World):List Value→List (List Value)→Prop
 | nil:Prts w [] []
 | snoc {PS:List Value} {CS:List (List Value)} {C:List Value} {ao:Option Addr} {c:Nat} (h:Prts w PS CS) (hc:Cel w ao c C):Prts w (PS++[.slice ao C.length c]) (CS++[C])
theorem Prts.len {w:World} {PS:List Value} {CS:List (List Value)} (h:Prts w PS CS):PS.length=CS.length:=by
 induction h with
 | nil=>rfl
 | snoc _ _ ih=>simp[ih]
theorem Prts.kept {w a:World} {PS:List Value} {CS:List (List Value)} (h:Prts w PS CS) (g:w.grownBy a none):Prts a PS CS:=by
 induction h with
 | nil=>exact .nil
 | snoc _ hc ih=>exact .snoc ih (hc.kept g)
theorem Prts.one {w:World} {PS:List Value} {CS:List (List Value)} (h:Prts w PS CS):∀ v∈PS,v.oneCell'=true:=by
 induction h with
 | nil=>intro v hv;cases hv
 | snoc _ _ ih =>
   intro v hv
   rcases List.mem_append.1 hv with hv | hv
   ·exact ih v hv
   ·rw[List.mem_singleton.1 hv];rfl
theorem Prts.at {w:World} {PS:List Value} {CS:List (List Value)} (h:Prts w PS CS):∀ i (hi:i<PS.length) (hj:i<CS.length),∃ ao c,PS[i] = .slice ao CS[i].length c∧Cel w ao c CS[i]:=by
 induction h with
 | nil=>intro i hi;cases hi
 | @snoc PS CS C ao c h hc ih =>
   intro i hi hj
   by_cases hl:i<PS.length
   ·have hl2:i<CS.length:=by rw[← h.len];exact hl
    obtain ⟨a1,c1,e1,q1⟩:=ih i hl hl2
    refine ⟨a1,c1,?_,?_⟩
    ·rw[List.getElem_append_left hl,List.getElem_append_left hl2];exact e1
    ·rw[List.getElem_append_left hl2];exact q1
   ·have hi2:i=PS.length:=by simp at hi;omega
    have hi3:i=CS.length:=by rw[← h.len];exact hi2
    refine ⟨ao,c,?_,?_⟩
    ·rw[List.getElem_append_right (by omega),List.getElem_append_right (by omega)]
     simp[hi2,h.len]
    ·rw[List.getElem_append_right (by omega)]
     simp[hi3]
     exact hc
structure Cuts (VS:List Value) (s k:Nat) (CS:List (List Value)):Prop where
 flat:CS.flatten=VS.take k
 k:k=min VS.length (CS.length*s)
 le:CS.length*s<VS.length+s
 each:∀ i (h:i<CS.length),0<CS[i].length∧CS[i].length≤s∧(i+1<CS.length→CS[i].length=s)
theorem Cuts.step {VS:List Value} {s k:Nat} {CS:List (List Value)} (h:Cuts VS s k CS) (hs:0<s) (hk:k<VS.length):Cuts VS s (k+min s (VS.length - k)) (CS++[(VS.drop k).take (min s (VS.length - k))]):=by
 have h1:=h.k
 have h2:k=CS.length*s:=by omega
 refine ⟨?_,?_,?_,?_⟩
 ·rw[List.flatten_append,h.flat,List.take_add]
  simp
 ·rw[List.length_append,List.length_singleton,Nat.add_mul]
  omega
 ·rw[List.length_append,List.length_singleton,Nat.add_mul]
  omega
 ·intro i hi
  by_cases hl:i<CS.length
  ·rw[List.getElem_append_left hl]
   obtain ⟨q1,q2,q3⟩:=h.each i hl
   refine ⟨q1,q2,fun _ => ?_⟩
   by_cases hl2:i+1<CS.length
   ·exact q3 hl2
   ·have hlen:CS.flatten.length=k:=by rw[h.flat];simp;omega
    have hi2:i+1=CS.length:=by omega
    have:∀ (D:List (List Value)),(∀ C∈D,C.length≤s)→D.flatten.length≤D.length*s:=by
     intro D
     induction D with
     | nil=>intro _;simp
     | cons C D ih =>
       intro hD
       rw[List.flatten_cons,List.length_append,List.length_cons,Nat.add_mul]
       have:=ih (fun C hC=>hD C (List.mem_cons_of_mem _ hC))
       have:=hD C (by simp)
       omega
    have hd:CS.take i++[CS[i]]=CS:=by rw[← List.take_succ_eq_append_getElem hl,hi2,List.take_length]
    have h5:=this (CS.take i) (fun C hC=>by
     obtain ⟨j,hj,rfl⟩:=List.getElem_of_mem (List.mem_of_mem_take hC)
     exact (h.each j hj).2.1)
    have h6:CS.flatten.length=(CS.take i).flatten.length+CS[i].length:=by
     conv=>lhs;rw[← hd]
     rw[List.flatten_append,List.length_append]
     simp
    have h7:(CS.take i).length=i:=by simp;omega
    rw[h7] at h5
    have h8:CS.length*s=i*s+s:=by rw[← hi2,Nat.add_mul];omega
    omega
  ·have hi3:i=CS.length:=by simp at hi;omega
   subst hi3
   rw[List.getElem_append_right (by omega)]
   simp
   omega
end Go.Proofs.YtoilcpdhhlcidaaGreatDoor
