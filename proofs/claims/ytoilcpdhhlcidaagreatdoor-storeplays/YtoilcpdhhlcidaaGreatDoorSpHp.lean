/- Lemmas. -/
import Derived.Test.YtoilcpdhhlcidaaGreatDoorSpRc
import Derived.Test.YtoilcpdhhlcidaaGreatDoorSpWr
import Derived.Test.YtoilcpdhhlcidaaGreatDoorMOpen
import Derived.Deep.AppendLies
namespace Go.Proofs.YtoilcpdhhlcidaaGreatDoor
open Go.RowKit
def sc (S:List (List UInt8)) (i:Nat):List UInt8:=(S[i]?).getD []
def ze3 (S:List (List UInt8)) (p k:Nat):List UInt8:=(List.range k).flatMap fun i=>(sc S (p+1+i)).drop 1
theorem ze4 (S:List (List UInt8)) (p k:Nat):ze3 S p (k+1)=ze3 S p k++(sc S (p+1+k)).drop 1:=by unfold ze3;rw[List.range_succ,List.flatMap_append];simp
theorem zeq {S:List (List UInt8)} (hS:∀ s∈S,s.length=256) {p:Nat} : ∀ k,p+1+k≤S.length→(ze3 S p k).length=255*k
 | 0,_=>rfl
 | k+1,h=>by
   have h1:(sc S (p+1+k)).length=256:=by unfold sc;rw[List.getElem?_eq_getElem (by omega)];exact hS _ (List.getElem_mem _)
   rw[ze4,List.length_append,zeq hS k (by omega),List.length_drop,h1]
   omega
def zc6 (S:List (List UInt8)) (p n:Nat):List (List UInt8):=(List.range n).map fun i=>sc S (p+i)
theorem zhe (S:List (List UInt8)) (p n:Nat):zc6 S p (n+1)=zc6 S p n++[sc S (p+n)]:=by unfold zc6;rw[List.range_succ,List.map_append];rfl
def txR (S:List (List UInt8)) (p:Nat):List UInt8:=(ze3 S p (secN (rdMk (sc S p)).2.2)).take (rdMk (sc S p)).2.2
def isR (S:List (List UInt8)) (hi p:Nat):Prop :=
 p+1+secN (rdMk (sc S p)).2.2≤hi∧mayB (zb9 (txR S p))=true∧recB (zb9 (txR S p))=txR S p ∧
  zc6 S p (1+secN (rdMk (sc S p)).2.2)=za8 (mkB (rdMk (sc S p)).1 (rdMk (sc S p)).2.1 (txR S p).length (shaL (txR S p)))::(List.range (secN (txR S p).length)).map (secB (txR S p))
theorem zbp (b:List UInt8):(shaL b).length=32:=zc5 b
theorem zoj {l:List Chg} (h:MayC l):MayC (l.map Chg.norm) :=
 ⟨by rw[List.length_map];exact h.1,fun c hc=>by
  obtain ⟨d,hd,rfl⟩:=List.mem_map.1 hc
  have hk:=h.2 d hd
  have hv:=Chg.norm_val hk
  have e:d.norm.key=d.key:=by unfold Chg.norm;split <;> rfl
  exact ⟨by rw[e];exact hk.key1,by rw[e];exact hk.key2,hv⟩⟩
theorem zqa (c:Chg):chB c.norm=chB c:=by
 obtain ⟨k,v,g⟩:=c
 cases g <;> rfl
theorem zok (l:List Chg):recB (l.map Chg.norm)=recB l:=by
 unfold recB
 rw[List.length_map,List.flatMap_map,show (fun a=>chB (Chg.norm a))=chB from funext zqa]
section
variable {S:List (List UInt8)} {hi p:Nat}
theorem zhf {g n:Nat} {l:List Chg} (hw:WholeS shaL S hi p g n l) (hg:g<18446744073709551616) (hn:n<18446744073709551616):rdMk (sc S p)=(g,n,(recB l).length)∧txR S p=recB l∧isR S hi p:=by
 have e1:sc S p=za8 (zbq shaL g n (recB l)):=by unfold sc;rw[hw.mark];rfl
 have e2:=zn0 (sm:=shaL) hg hn (zcy hw.may)
 rw[← e1] at e2
 have e3:∀ k,k≤secN (recB l).length→ze3 S p k=zi8 (recB l) k:=by
  intro k hk
  induction k with
  | zero=>rfl
  | succ k ih =>
    rw[ze4,zg4,ih (by omega)]
    have:=hw.secs k (by omega)
    unfold sc
    rw[this]
    rfl
 have e4:txR S p=recB l:=by
  unfold txR
  rw[e2]
  simp only
  rw[e3 _ (Nat.le_refl _),zl1]
 refine ⟨e2,e4,?_⟩
 unfold isR
 rw[e4,e2,zn3 hw.may]
 refine ⟨hw.fits,(za5 _).2 (zoj hw.may),zok l,?_⟩
 apply List.ext_getElem?
 intro i
 cases i with
 | zero =>
   unfold zc6
   simp only[List.getElem?_map,List.getElem?_cons_zero]
   rw[List.getElem?_range (by omega)]
   simp only[Option.map_some,Nat.add_zero,e1]
   rw[zh0]
 | succ i =>
   unfold zc6
   rw[List.getElem?_cons_succ]
   by_cases h:i<secN (recB l).length
   ·rw[List.getElem?_map,List.getElem?_map,List.getElem?_range (by simp only;omega),List.getElem?_range h]
    simp only[Option.map_some]
    have:=hw.secs i h
    unfold sc
    rw[show p+(i+1)=p+1+i by omega,this]
    rfl
   ·rw[List.getElem?_eq_none (by simp;omega),List.getElem?_eq_none (by simp;omega)]
theorem zme (h:isR S hi p) (hS:∀ s∈S,s.length=256) (hh:hi≤S.length):WholeS shaL S hi p (rdMk (sc S p)).1 (rdMk (sc S p)).2.1 (zb9 (txR S p)):=by
 obtain ⟨h1,h2,h3,h4⟩:=h
 have hl:(txR S p).length=(rdMk (sc S p)).2.2:=by
  unfold txR
  rw[List.length_take,zeq hS _ (by omega)]
  unfold secN
  omega
 refine ⟨(za5 _).1 h2,?_,by rw[h3,hl];exact h1,fun i hi2 => ?_⟩
 ·have:=congrArg (·[0]?) h4
  unfold zc6 at this
  simp only[List.getElem?_map,List.getElem?_cons_zero] at this
  rw[List.getElem?_range (by omega)] at this
  simp only[Option.map_some,Option.some.injEq,Nat.add_zero] at this
  rw[h3]
  have hp:p<S.length:=by omega
  unfold sc at this ⊢
  rw[List.getElem?_eq_getElem hp] at this ⊢
  simp only[Option.getD_some] at this ⊢
  rw[Option.some.injEq]
  exact this.trans (congrArg za8 (zh0 shaL _ _ _))
 ·rw[h3,hl] at hi2
  have:=congrArg (·[i+1]?) h4
  unfold zc6 at this
  simp only[List.getElem?_map,List.getElem?_cons_succ] at this
  rw[List.getElem?_range (by omega),List.getElem?_range (by rw[hl];exact hi2)] at this
  simp only[Option.map_some,Option.some.injEq] at this
  rw[h3]
  have hp:p+1+i<S.length:=by omega
  unfold sc at this
  rw[show p+(i+1)=p+1+i by omega,List.getElem?_eq_getElem hp] at this
  rw[List.getElem?_eq_getElem hp]
  simp only[Option.getD_some] at this
  rw[this]
end
structure RrI (w:World) (sv tv:Value) (A:List (List UInt8)) (T:List UInt8) (W:World):Prop where
 row:∃ Vs:List Value,W.ownsRow w.heap.size 53 1 sv A.length Vs∧∀ (i:Nat) (u:List UInt8),A[i]? = some u→∃ q o c,Vs[i]? = some (Value.slice (some ⟨q,o,none⟩) u.length c)∧Bts W (some ⟨q,o,none⟩) c u∧q<W.heap.size∧w.heap.size≤q∧some q≠sv.ownBlock∧some q≠tv.ownBlock
 txt:W.ownsRow w.heap.size 5 1 tv T.length (T.map bv)
 gb:w.grownBy W none
theorem RrI.nn {w W W' : World} {sv tv:Value} {A:List (List UInt8)} {T:List UInt8} (h:RrI w sv tv A T W) (g:W.grownBy W' none):RrI w sv tv A T W':=by
 obtain ⟨Vs,h1,h2⟩:=h.row
 refine ⟨⟨Vs,h1.kept g (by cases sv.ownBlock <;> simp),fun i u hu => ?_⟩,h.txt.kept g (by cases tv.ownBlock <;> simp),tn h.gb g⟩
 obtain ⟨q,o,c,q1,q2,q3,q4,q5⟩:=h2 i u hu
 exact ⟨q,o,c,q1,q2.kept g (fun _ e=>by cases e),Nat.lt_of_lt_of_le q3 g.size,q4,q5⟩
theorem RrI.sec {w W W' : World} {sv tv:Value} {A:List (List UInt8)} {T s:List UInt8} {g cap q o c:Nat} {Vs:List Value} (h:RrI w sv tv A T W) (h1:W.ownsRow w.heap.size 53 1 sv A.length Vs)
  (h2:∀ (i:Nat) (u:List UInt8),A[i]? = some u→∃ q o c,Vs[i]? = some (Value.slice (some ⟨q,o,none⟩) u.length c)∧Bts W (some ⟨q,o,none⟩) c u∧q<W.heap.size∧w.heap.size≤q∧some q≠sv.ownBlock∧some q≠tv.ownBlock)
  (hb:Bts W (some ⟨q,o,none⟩) c s) (hq:q<W.heap.size∧w.heap.size≤q∧some q≠sv.ownBlock∧some q≠tv.ownBlock)
  (ho:W'.ownsRow w.heap.size 53 1 (.slice (some ⟨g,0,none⟩) (A.length+1) cap) (A.length+1) (Vs++[.slice (some ⟨q,o,none⟩) s.length c])) (gr:W.grownBy W' sv.ownBlock) (hg:sv.ownBlock=some g∨W.heap.size≤g) :
  RrI w (.slice (some ⟨g,0,none⟩) (A.length+1) cap) tv (A++[s]) T W':=by
 have hVl:Vs.length=A.length:=by have:=h1.1;simpa using this
 have hgn:∀ y,y<W.heap.size→some y≠sv.ownBlock→y≠g:=fun y h3 h4=>by
  rcases hg with h5 | h5
  ·intro e;exact h4 (by rw[h5,e])
  ·omega
 refine ⟨⟨_,by rw[List.length_append];exact ho,fun i u hu => ?_⟩,h.txt.kept gr ?_,zae h.gb gr (fun y e=>Or.inl (h1.lt y e).1)⟩
 ·have key:∀ q o c (u:List UInt8),Bts W (some ⟨q,o,none⟩) c u→q<W.heap.size→w.heap.size≤q→some q≠sv.ownBlock→some q≠tv.ownBlock→Bts W' (some ⟨q,o,none⟩) c u∧q<W'.heap.size∧w.heap.size≤q∧some q≠(Value.slice (some ⟨g,0,none⟩) (A.length+1) cap).ownBlock∧some q≠tv.ownBlock:=fun q o c u k1 k2 k3 k4 k5 =>
   ⟨k1.kept gr (fun y e=>by intro ad e2 e3;cases e2;exact k4 (by rw[e,← e3])),Nat.lt_of_lt_of_le k2 gr.size,k3,fun e=>hgn q k2 k4 (by have:some q=some g:=e;injection this),k5⟩
  by_cases hi:i<A.length
  ·rw[List.getElem?_append_left hi] at hu
   obtain ⟨q',o',c',e,k1,k2,k3,k4,k5⟩:=h2 i u hu
   exact ⟨q',o',c',by rw[List.getElem?_append_left (by omega)];exact e,key _ _ _ _ k1 k2 k3 k4 k5⟩
  ·have hiL:i=A.length:=by
    have:=(List.getElem?_eq_some_iff.1 hu).1
    simp only[List.length_append,List.length_cons,List.length_nil] at this
    omega
   subst hiL
   rw[List.getElem?_append_right (Nat.le_refl _),Nat.sub_self] at hu
   cases hu
   exact ⟨q,o,c,by rw[List.getElem?_append_right (by omega),hVl,Nat.sub_self];rfl,key _ _ _ _ hb hq.1 hq.2.1 hq.2.2.1 hq.2.2.2⟩
 ·have:=zcz h.txt h1 (by decide)
  exact this
theorem RrI.tex {w W W' : World} {sv tv:Value} {A:List (List UInt8)} {T T' : List UInt8} {g n cap:Nat} (h:RrI w sv tv A T W)
  (ho:W'.ownsRow w.heap.size 5 1 (.slice (some ⟨g,0,none⟩) n cap) T'.length (T'.map bv)) (gr:W.grownBy W' tv.ownBlock) (hg:tv.ownBlock=some g∨W.heap.size≤g) :
  RrI w sv (.slice (some ⟨g,0,none⟩) n cap) A T' W':=by
 obtain ⟨Vs,h1,h2⟩:=h.row
 have hgn:∀ y,y<W.heap.size→some y≠tv.ownBlock→y≠g:=fun y h3 h4=>by
  rcases hg with h5 | h5
  ·intro e;exact h4 (by rw[h5,e])
  ·omega
 refine ⟨⟨Vs,h1.kept gr (zcz h1 h.txt (by decide)),fun i u hu => ?_⟩,ho,zae h.gb gr (fun y e=>Or.inl (h.txt.lt y e).1)⟩
 obtain ⟨q,o,c,e,k1,k2,k3,k4,k5⟩:=h2 i u hu
 exact ⟨q,o,c,e,k1.kept gr (fun y e=>by intro ad e2 e3;cases e2;exact k5 (by rw[e,← e3])),Nat.lt_of_lt_of_le k2 gr.size,k3,k4,fun e=>hgn q k2 k5 (by have:some q=some g:=e;injection this)⟩
theorem zbk {P:Program} {fn:Func} {p u v:Tmp} {ty:TypeId} (h:fn.results = #[.cell p ty,.tmp u,.tmp v]) (tmps:Array Value) (w:World) (g:Nat) (t:TypeId) (cs:Array Value) (fr:Nat × Nat) (d:TypeDesc)
  (hp:tmps.getD p undef = .pointer (some ⟨g,0,none⟩)) (hg:w.heap[g]? = some (.cells cs t fr))
  (hu:P.underlying ty=some d) (hd:(match d with | .struct _ | .array _ _=>true | _=>false)=true) (hi:(P.info? ty).map (·.size)=some cs.size) :
  (results fn tmps).run P w = .ok (.tuple #[.agg cs,tmps.getD u undef,tmps.getD v undef]) w:=by
 have h1:=run_loadVar_row (P:=P) w g t ty cs fr d hg hu hd hi
 simp only[results,h]
 simp[-Array.getD_eq_getD_getElem?,Result.andThen,hp,asAddr,h1]
theorem zgk {u w:World} {F:List Nat} {d:Nat} {D:Dsk} (h:Dw u w F d D) (hd:D.down=false) (hU:D.U=[]) (z:Int) (i:Nat) (hz:z=(i:Int)) :
  Calls Tryz.prog 27 #[.pointer (some ⟨d,0,none⟩),.int .i64 z] w fun e w'=>∃ ao c er,e = .returned (.tuple #[.slice ao (sc D.safe i).length c,.int .i64 er])∧Bts w' ao c (sc D.safe i)∧(∀ ad,ao=some ad→w.heap.size≤ad.block)∧(i<D.safe.length→er=0)∧w.grownBy w' none:=by
 subst hz
 have e1:rdD D (i:Int)=(sc D.safe i,if i<D.safe.length then 0 else 2):=by
  unfold rdD
  rw[if_neg (by rw[hd];decide)]
  by_cases hi:i<D.safe.length
  ·rw[if_pos ((zeb D i).2 (by omega)),if_pos hi,Int.toNat_natCast]
   unfold zhk zie sc
   rw[hU];rfl
  ·rw[if_neg (fun e=>by have:=(zeb D i).1 e;omega),if_neg hi]
   unfold sc
   rw[List.getElem?_eq_none (by omega)];rfl
 refine (zsr h i (by rw[hU];simp)).mono fun e w' q => ?_
 rw[e1] at q
 obtain ⟨ao,c,q1,q2,q3,q4⟩:=q
 exact ⟨ao,c,_,q1,q2,q3,fun hi=>by rw[if_pos hi],q4⟩
def PreS (sm:List UInt8→List UInt8) (S:List (List UInt8)) (hi g:Nat):Nat→Nat→List (List Chg)→Nat→Prop
 | p,_,[],e=>e=p
 | p,n,l::ls,e=>WholeS sm S hi p g n l∧PreS sm S hi g (zaz p l) (n+1) ls e
section
variable {sm:List UInt8→List UInt8} {S:List (List UInt8)} {hi g:Nat}
theorem PreS.snoc:∀ {ls:List (List Chg)} {p n e:Nat} {l:List Chg},PreS sm S hi g p n ls e→WholeS sm S hi e g (n+ls.length) l→PreS sm S hi g p n (ls++[l]) (zaz e l)
 | [],_,_,_,l,h,hw=>by
   cases h
   exact ⟨hw,rfl⟩
 | l1::ls,p,n,e,l,h,hw=>⟨h.1,PreS.snoc h.2 (by rw[show n+1+ls.length=n+(l1::ls).length by simp;omega];exact hw)⟩
theorem PreS.end:∀ {ls:List (List Chg)} {p n e:Nat},PreS sm S hi g p n ls e→(∀ l,¬ WholeS sm S hi e g (n+ls.length) l)→zbm sm S hi g p n ls e
 | [],_,_,_,h,hn=>by
   cases h
   exact ⟨rfl,hn⟩
 | l1::ls,p,n,e,h,hn=>⟨h.1,PreS.end h.2 (by rw[show n+1+ls.length=n+(l1::ls).length by simp;omega];exact hn)⟩
theorem PreS.fits:∀ {ls:List (List Chg)} {p n e:Nat},PreS sm S hi g p n ls e→p≤hi→e≤hi
 | [],_,_,_,h,hp=>by cases h;exact hp
 | _::_,_,_,_,h,_=>PreS.fits h.2 h.1.fits
theorem PreS.len:∀ {ls:List (List Chg)} {p n e:Nat},PreS sm S hi g p n ls e→p+ls.length≤e
 | [],_,_,_,h=>by cases h;simp
 | l::ls,p,n,e,h=>by
   have:=PreS.len h.2
   unfold zaz at this
   simp only[List.length_cons]
   omega
end
def HfS (S:List (List UInt8)) (hi f g p:Nat) (ls:List (List Chg)):Prop :=
 (ls=[]∧g=0∧p=f∧∀ g',1≤g'→g'<18446744073709551616→∀ l,¬ WholeS shaL S hi f g' 0 l)∨(ls≠[]∧1≤g∧g<18446744073709551616∧zbm shaL S hi g f 0 ls p)
def goB (g r G N:Nat):Bool:=if r=0 then (N == 0 && decide (0<G)) else (N == r && G == g)
structure HfP (S:List (List UInt8)) (hi f g p:Nat) (ls:List (List Chg)):Prop where
 pre:PreS shaL S hi g f 0 ls p
 no:ls=[]→g=0
 some:ls≠[]→1≤g∧g<18446744073709551616
section
variable {S:List (List UInt8)} {hi f g p:Nat} {ls:List (List Chg)}
theorem HfP.stop (h:HfP S hi f g p ls) (hl:ls.length<18446744073709551616) (hn:¬ isR S hi p∨goB g ls.length (rdMk (sc S p)).1 (rdMk (sc S p)).2.1=false):HfS S hi f g p ls:=by
 have key:∀ g' l,g'<18446744073709551616→WholeS shaL S hi p g' ls.length l→goB g ls.length g' ls.length=true→False:=fun g' l hg' hw hb=>by
  obtain ⟨e1,_,e3⟩:=zhf hw hg' hl
  rcases hn with h1 | h1
  ·exact h1 e3
  ·rw[e1] at h1
   simp only at h1
   rw[hb] at h1
   cases h1
 by_cases he:ls=[]
 ·subst he
  have hp:p=f:=h.pre
  refine Or.inl ⟨rfl,h.no rfl,hp,fun g' h1 h2 l hw=>key g' l h2 (by rw[hp];exact hw) ?_⟩
  unfold goB
  simp
  omega
 ·refine Or.inr ⟨he,(h.some he).1,(h.some he).2,h.pre.end fun l hw=>key g l (h.some he).2 (by simpa using hw) ?_⟩
  unfold goB
  rw[if_neg (by intro e;exact he (List.length_eq_zero_iff.1 e))]
  simp
theorem HfP.more (h:HfP S hi f g p ls) (hS:∀ s∈S,s.length=256) (hh:hi≤S.length) (hr:isR S hi p) (hb:goB g ls.length (rdMk (sc S p)).1 (rdMk (sc S p)).2.1=true) :
  HfP S hi f (rdMk (sc S p)).1 (p+(1+secN (rdMk (sc S p)).2.2)) (ls++[zb9 (txR S p)])∧(ls++[zb9 (txR S p)]).length=ls.length+1:=by
 have hw:=zme hr hS hh
 have hlt:=zjx (sc S p)
 obtain ⟨e1,e2,_⟩:=zhf hw hlt.1 hlt.2.1
 have e4:(rdMk (sc S p)).2.2=(recB (zb9 (txR S p))).length:=by rw[e1]
 refine ⟨⟨?_,fun e=>by simp at e,fun _ => ?_⟩,by simp⟩
 ·rw[show p+(1+secN (rdMk (sc S p)).2.2)=zaz p (zb9 (txR S p)) by unfold zaz;rw[e4];omega]
  by_cases he:ls=[]
  ·subst he
   have hp:p=f:=h.pre
   unfold goB at hb
   simp at hb
   rw[hb.1] at hw
   rw[← hp]
   exact ⟨hw,rfl⟩
  ·unfold goB at hb
   rw[if_neg (by intro e;exact he (List.length_eq_zero_iff.1 e))] at hb
   simp at hb
   rw[hb.1,hb.2] at hw
   rw[hb.2]
   exact h.pre.snoc (by simpa using hw)
 ·by_cases he:ls=[]
  ·subst he
   unfold goB at hb
   simp at hb
   exact ⟨hb.2,hlt.1⟩
  ·exact ⟨by
    have:=(h.some he).1
    unfold goB at hb
    rw[if_neg (by intro e;exact he (List.length_eq_zero_iff.1 e))] at hb
    simp at hb
    rw[hb.2]
    exact this,hlt.1⟩
end
end Go.Proofs.YtoilcpdhhlcidaaGreatDoor
