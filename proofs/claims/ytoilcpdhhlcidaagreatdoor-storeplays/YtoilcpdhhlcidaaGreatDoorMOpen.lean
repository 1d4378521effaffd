/- Lemmas. -/
import Derived.ProofKit
import Derived.OpenShut
import Derived.Deep.Slices
import Derived.SizedLaws
import Derived.Test.YtoilcpdhhlcidaaGreatDoorDkCl
namespace Go.Proofs.YtoilcpdhhlcidaaGreatDoor
open Go.ChangeShapes Go.WideShapes Go.ChangeAt Go.RowKit Go.Deep
theorem zp5:ownKnob Tryz.prog.godebug=none:=by kernel_rfl
theorem zp6:laidOutB Tryz.prog=true:=by kernel_rfl
theorem zp7 {H:Type} {enc:TypeId × Value→H} {W:World} {a:Option Addr} {len cap:Nat} {d:DataW H} {p:List MemPlace} (h:DataW.Trod enc Tryz.prog W 0 (fun _=>true) true 53 (.slice a len cap) d p) :
  ∃ l:List UInt8,l.length=len∧Bts W a cap l:=by
 obtain ⟨fuel,hf⟩:=h
 rcases open_ints Tryz.underlying53 Tryz.underlying5 (by kernel_rfl) hf with ⟨hcs,_⟩ | ⟨x,l,c,zs,hcs,_,hl,hm,hz,_,hcell,hwz⟩
 ·simp[Value.cells] at hcs
  obtain ⟨rfl,rfl,rfl⟩:=hcs
  exact ⟨[],rfl,Bts.nil _⟩
 ·simp[Value.cells] at hcs
  obtain ⟨rfl,rfl,rfl⟩:=hcs
  have hzc:zs.length=cap:=by simpa using hz
  have hsp:0<zs.length→x.spot=none:=fun h0=>by
   have:=World.cell?_spot (hcell 0 h0)
   simpa[Addr.add] using this
  refine ⟨(zs.take len).map fun z=>UInt8.ofNat z.toNat,by simp;omega,⟨(fun e=>by cases e),by simp;omega,hm,(fun ad e hp=>by cases e;exact hsp (by simp at hp;omega)),(fun ad e i hi => ?_)⟩⟩
  cases e
  have hi' : i<len:=by simp at hi;omega
  have hs:=hsp (by omega)
  have hc:=hcell i (by omega)
  obtain ⟨b,o,s⟩:=x
  simp only at hs
  subst hs
  rw[Addr.add_lit] at hc
  rw[hc]
  have hw:=hwz _ (List.getElem_mem (show i<zs.length by omega))
  have hb:=bounds_u8 hw
  simp only[List.getElem_map,List.getElem_take,List.getD,List.getElem?_eq_getElem (show i<zs.length by omega),Option.getD_some]
  congr 2
  rw[UInt8.toNat_ofNat']
  omega
theorem zp8 {H:Type} {enc:TypeId × Value→H} {W:World} {fuel:Nat} {v:Value} {x:DataW H × List MemPlace} (h:DataW.trod enc Tryz.prog W 0 (fun _=>true) true fuel 53 [v]=some x) :
  ∃ l ao c,v = .slice ao (l:List UInt8).length c∧Bts W ao c l:=by
 have hv:∃ ao n c,v = .slice ao n c:=by
  rcases open_ints Tryz.underlying53 Tryz.underlying5 (by kernel_rfl) h with ⟨hcs,_⟩ | ⟨y,l,c,zs,hcs,_⟩
  ·cases hcs;exact ⟨_,_,_,rfl⟩
  ·cases hcs;exact ⟨_,_,_,rfl⟩
 obtain ⟨ao,n,c,rfl⟩:=hv
 obtain ⟨l,h1,h2⟩:=zp7 (enc:=enc) (W:=W) (a:=ao) (len:=n) (cap:=c) (d:=x.1) (p:=x.2) ⟨fuel,by simpa[Value.cells] using h⟩
 exact ⟨l,ao,c,by rw[h1],h2⟩
theorem zep {H:Type} {P:Program} {e:TypeId} : ∀ {l:List (DataW H)} {d:DataW H},d∈l→∀ n∈d.weights P e,n∈DataW.weightsAll P e l
 | d'::r,d,hd,n,hn=>by
   simp only[DataW.weightsAll,List.mem_append]
   rcases List.mem_cons.1 hd with rfl | h
   ·exact Or.inl hn
   ·exact Or.inr (zep h n hn)
theorem zjj {H:Type} {enc:TypeId × Value→H} {W:World} {α:Type} [Inhabited α] {t e:TypeId} {K fuel:Nat} {v:Value} {x:DataW H × List MemPlace} (f:α→List Value) (Pd:α→DataW H→Prop)
  (ht:Tryz.prog.underlying t=some (.slice e)) (hK:Tryz.prog.cellsOf e=K) (hK0:0<K)
  (hel:∀ (n:Nat) (cs:List Value) (y:DataW H × List MemPlace),DataW.trod enc Tryz.prog W 0 (fun _=>true) true n e cs=some y→∃ r:α,cs=f r∧Pd r y.1)
  (h:DataW.trod enc Tryz.prog W 0 (fun _=>true) true fuel t [v]=some x) :
  ∃ (L:List α) (ao:Option Addr) (c:Nat),v = .slice ao L.length c∧(ao=none→L.length=0∧c=0)∧L.length≤c∧c≤maxLen∧(∀ ad,ao=some ad→0<L.length→ad.spot=none) ∧
    (∀ ad,ao=some ad→∀ i (h:i<L.length),W.rangeAt ad.block (ad.off+i*K) (f L[i]))∧∀ r∈L,∃ d',Pd r d'∧∀ m∈d'.weights Tryz.prog e,m∈x.1.weights Tryz.prog t:=by
 rcases open_slice ht h with ⟨hcs,_⟩ | ⟨a,len,cap,m,n,D,Pl,hcs,_,hl,hm,hmm,hx0,hx⟩
 ·simp only[List.cons.injEq,and_true] at hcs
  subst hcs
  exact ⟨[],none,0,rfl,fun _=>⟨rfl,rfl⟩,Nat.le_refl _,Nat.zero_le _,(fun _ e=>by cases e),(fun _ e=>by cases e),(fun _ e=>by cases e)⟩
 ·simp only[List.cons.injEq,and_true] at hcs
  subst hcs
  have hmc:m=cap:=by rw[hmm];rfl
  have each:∀ i,i<len→∃ r:α,(∀ j u,(f r)[j]? = some u→W.cell? (a.add (i*K+j))=some u)∧(f r).length=K∧Pd r (D i):=by
   intro i hi
   obtain ⟨cs',h1,h2⟩:=hx i (by omega)
   rw[hK] at h1
   obtain ⟨_,hlen,hcell⟩:=World.cells?_some h1
   obtain ⟨r,rfl,hp⟩:=hel _ _ _ h2
   refine ⟨r,fun j u hu => ?_,hlen,hp⟩
   obtain ⟨hj,hu2⟩:=List.getElem?_eq_some_iff.1 hu
   have e0:=hcell j (by omega)
   rw[add_add] at e0
   rw[e0,← hu2]
   simp[hj]
  obtain ⟨q,hq⟩:=choose_lt each
  have hsp:0<len→a.spot=none:=fun h0=>by
   obtain ⟨h1,h2,_⟩:=hq 0 h0
   have h3:0<(f (q 0)).length:=by omega
   have:=World.cell?_spot (h1 0 _ (List.getElem?_eq_getElem h3))
   simpa[Addr.add] using this
  obtain ⟨b,o,sp⟩:=a
  refine ⟨(List.range len).map q,some ⟨b,o,sp⟩,cap,by simp,(fun e=>by cases e),by simpa using hl,hm,(fun ad e hp=>by cases e;exact hsp (by simpa using hp)),?_,?_⟩
  ·intro ad e i hi
   cases e
   have hi' : i<len:=by simpa using hi
   have hs:=hsp (by omega)
   simp only at hs
   subst hs
   intro j u hu
   have:=(hq i hi').1 j u (by simpa using hu)
   rw[Addr.add_lit] at this
   rw[Nat.add_assoc]
   exact this
  ·intro r hr
   obtain ⟨i,hi,rfl⟩:=List.mem_map.1 hr
   have hi' : i<len:=List.mem_range.1 hi
   refine ⟨D i,(hq i hi').2.2,fun m hm => ?_⟩
   rw[hx0]
   simp only[DataW.weights,ht,List.mem_cons,List.mem_append]
   exact Or.inr (Or.inl (zep (List.mem_map.2 ⟨i,hi,rfl⟩) _ hm))
end Go.Proofs.YtoilcpdhhlcidaaGreatDoor

/- Lemmas. -/
namespace Go.Proofs.YtoilcpdhhlcidaaGreatDoor
open Go.RowKit
def ivc (z:Int):Value := .int .i64 z
section
variable {u w:World} {F:List Nat} {d:Nat} {D:Dsk} (h:Dw u w F d D)
include h
end
theorem zp9 {w:World} {ao:Option Addr} {c n:Nat} {l:List UInt8} (h:Bts w ao c l) (hn:n=l.length):(convert 53 9 (.slice ao n c)).run Tryz.prog w = .ok (.string (str l)) w:=by
 subst hn
 exact zb7 h
theorem lclone {u w:World} {F:List Nat} {d:Nat} {D:Dsk} (h:Dw u w F d D) (hU:D.U.length≤1000000) :
  Calls Tryz.prog 26 #[.pointer (some ⟨d,0,none⟩)] w fun e w'=>∃ d' F',e = .returned (.pointer (some ⟨d',0,none⟩))∧Dw u w' F' d' D∧(∀ x∈F',w.heap.size≤x)∧w.grownBy w' none :=
 (zmd _ w F d D h.at_ hU).mono fun _ _ q=>by
  obtain ⟨d',F',q1,q2,q3⟩:=q
  exact ⟨d',F',q1,⟨q2.lower h.gb.size,tn h.gb q3⟩,fun x hx=>(q2.low x hx).1,q3⟩
end Go.Proofs.YtoilcpdhhlcidaaGreatDoor

/- Lemmas. -/
namespace Go.Proofs.YtoilcpdhhlcidaaGreatDoor
open Go.ChangeShapes Go.WideShapes Go.ChangeAt Go.RowKit Go.Deep
end Go.Proofs.YtoilcpdhhlcidaaGreatDoor
