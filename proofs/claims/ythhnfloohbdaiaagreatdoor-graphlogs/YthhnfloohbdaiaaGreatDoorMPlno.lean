/- Lemmas. -/
import Derived.Test.YthhnfloohbdaiaaGreatDoorWGLog
import Derived.ProofKit
import Derived.OpenShut
import Derived.Deep.Slices
import Derived.LaidMore
import Derived.Lib.LaidTab
import Derived.Stop.LaidErr
import Derived.SizedLaws
namespace Go.Proofs.YthhnfloohbdaiaaGreatDoor
open Go.RowKit
theorem zqp (w:World) (ao:Option Addr) (ac:Nat) (L:List PlnR) (hL:Plns w ao ac L) (hT:Tabs w):Calls Tryz.prog 9 #[.slice ao L.length ac] w fun e w'=>zzd w w' e:=by
 refine (zqn w ao ac L hL hT).mono ?_
 rintro e w' ⟨sb,mb,a1,a2,ia,n1,n2,c1,c2,ic,S,I,rfl,h1,h2,h3,h4,h5,h6,h7⟩
 exact ⟨sb,mb,a1,a2,ia,n1,n2,c1,c2,ic,S,I,rfl,⟨h1,h2,h3,h4,h5,h6,h7⟩⟩
theorem zqq (w:World) (ao:Option Addr) (ac:Nat) (L:List PlnR) (hL:Plns w ao ac L) (za zb:Int) (hT:Tabs w) :
  Calls Tryz.prog 5 #[.slice ao L.length ac,.int .i64 za,.int .i64 zb] w fun e w'=>e = .returned (.bool true)∧w.grownBy w' none :=
 ztx w ao ac L.length (zqp w ao ac L hL hT) za zb hT
end Go.Proofs.YthhnfloohbdaiaaGreatDoor

/- Lemmas. -/
namespace Go.Proofs.YthhnfloohbdaiaaGreatDoor
open Go.ChangeShapes Go.WideShapes Go.ChangeAt Go.RowKit Go.Deep
theorem zwo:ownKnob Tryz.prog.godebug=none:=by kernel_rfl
theorem zwp:laidOutB Tryz.prog=true:=by kernel_rfl
end Go.Proofs.YthhnfloohbdaiaaGreatDoor

/- Lemmas. -/
namespace Go.Proofs.YthhnfloohbdaiaaGreatDoor
open Go.ChangeShapes Go.WideShapes Go.ChangeAt Go.RowKit
def zqr:List (String × DataW Unit):=[("coffret/sha.squareRoots",Rows.laid_coffret_sha_squareRoots),("coffret/sha.cubeRoots",Rows.laid_coffret_sha_cubeRoots)]
theorem zyl:(Rows.laid_coffret_sha_squareRoots:DataW Unit)=Lib.tabData .u32 (Hs.map wz):=by kernel_rfl
theorem zym:(Rows.laid_coffret_sha_cubeRoots:DataW Unit)=Lib.tabData .u32 (Ks.map wz):=by kernel_rfl
theorem g_sq:Tryz.prog.globalNamed "coffret/sha.squareRoots" = some 2:=by kernel_rfl
theorem g_cu:Tryz.prog.globalNamed "coffret/sha.cubeRoots" = some 1:=by kernel_rfl
theorem t_sq:(Tryz.prog.globals[2]?).map (·.type)=some 210:=by kernel_rfl
theorem t_cu:(Tryz.prog.globals[1]?).map (·.type)=some 239:=by kernel_rfl
theorem zty {W:World} {name:String} {g:Nat} {cs:Array Value} (hg:Tryz.prog.globalNamed name=some g) (h:W.var? Tryz.prog name=some cs):∃ t fr,W.heap[g]? = some (.cells cs t fr):=by
 unfold World.var? at h
 rw[hg,Option.bind_some] at h
 split at h
 ·rename_i cs' t fr hh
  cases h
  exact ⟨t,fr,hh⟩
 ·cases h
theorem zwq (l:List W):(l.map wz).map (fun z=>Value.int .u32 z)=l.map wv:=by
 rw[List.map_map];rfl
theorem zl2 {W:World} (h:laidMetH Tryz.prog zqr W):Tabs W:=by
 rw[MakeChecks.laidMetH_plain _ _ _ (by kernel_rfl)] at h
 unfold zqr at h
 rw[zyl,zym] at h
 have h1:=Lib.tabIs_of_head g_sq t_sq Tryz.underlying210 Tryz.underlying209 (by kernel_rfl) (by kernel_rfl) h
 have h2:=Lib.tabIs_of_head g_cu t_cu Tryz.underlying239 Tryz.underlying209 (by kernel_rfl) (by kernel_rfl) h.tail
 unfold Lib.TabIs at h1 h2
 rw[zwq] at h1 h2
 exact ⟨zty g_cu h2,zty g_sq h1⟩
theorem zwr (os:Os) (args:Array Value):laidMetH Tryz.prog zqr ((World.doorLaid Tryz.prog 400 os).forCall (fun _ _=>0) ⟨#[],args,[]⟩).memory :=
 laidMetH_of_parts3 (fuel:=8) (laidMet_of_run' 8 (by kernel_rfl) (by kernel_rfl)) (by kernel_rfl) (by kernel_rfl)
end Go.Proofs.YthhnfloohbdaiaaGreatDoor

/- Lemmas. -/
namespace Go.Proofs.YthhnfloohbdaiaaGreatDoor
open Go.ChangeShapes Go.WideShapes Go.ChangeAt Go.RowKit Go.Deep
theorem zgn {H:Type} {P:Program} {e:TypeId} : ∀ {l:List (DataW H)} {d:DataW H},d∈l→∀ n∈d.weights P e,n∈DataW.weightsAll P e l
 | d'::r,d,hd,n,hn=>by
  simp only[DataW.weightsAll,List.mem_append]
  rcases List.mem_cons.1 hd with rfl | h
  ·exact Or.inl hn
  ·exact Or.inr (zgn h n hn)
theorem ztz {H:Type} {enc:TypeId × Value→H} {W:World} {α:Type} [Inhabited α] {t e:TypeId} {K fuel:Nat} {v:Value} {x:DataW H × List MemPlace} (f:α→List Value) (Pd:α→DataW H→Prop)
  (ht:Tryz.prog.underlying t=some (.slice e)) (hK:Tryz.prog.cellsOf e=K) (hK0:0<K)
  (hel:∀ (n:Nat) (cs:List Value) (y:DataW H × List MemPlace),DataW.trod enc Tryz.prog W 0 (fun _=>true) true n e cs=some y→∃ r:α,cs=f r∧Pd r y.1)
  (h:DataW.trod enc Tryz.prog W 0 (fun _=>true) true fuel t [v]=some x) :
  ∃ (L:List α) (ao:Option Addr) (c:Nat),v = .slice ao L.length c∧(ao=none→L.length=0∧c=0)∧L.length≤c∧c≤maxLen∧(∀ ad,ao=some ad→0<L.length→ad.spot=none) ∧
   (∀ ad,ao=some ad→∀ i (h:i<L.length),W.rangeAt ad.block (ad.off+i*K) (f L[i]))∧∀ r∈L,∃ d',Pd r d'∧∀ m∈d'.weights Tryz.prog e,m∈x.1.weights Tryz.prog t:=by
 rcases open_slice ht h with ⟨hcs,_⟩ | ⟨a,len,cap,m,n,D,Pl,hcs,_,hl,hm,hmm,hx0,hx⟩
 ·simp only[List.cons.injEq,and_true] at hcs
  subst hcs
  exact ⟨[],none,0,rfl,fun _=>⟨rfl,rfl⟩,Nat.le_refl _,Nat.zero_le _,(fun _ e=>by cases e),(fun _ e=>by cases e),(fun _ e=>by cases e)⟩
 ·simp only[List.cons.injEq,and_true] at hcs
  subst hcs
  have hmc:m=cap:=by rw[hmm];rfl
  have each:∀ i,i<len→∃ r:α,(∀ j u,(f r)[j]? = some u→W.cell? (a.add (i*K+j))=some u)∧(f r).length=K∧Pd r (D i):=by
   intro i hi
   obtain ⟨cs',h1,h2⟩:=hx i (by omega)
   rw[hK] at h1
   obtain ⟨_,hlen,hcell⟩:=World.cells?_some h1
   obtain ⟨r,rfl,hp⟩:=hel _ _ _ h2
   refine ⟨r,fun j u hu => ?_,hlen,hp⟩
   obtain ⟨hj,hu2⟩:=List.getElem?_eq_some_iff.1 hu
   have e0:=hcell j (by omega)
   rw[add_add] at e0
   rw[e0,← hu2]
   simp[hj]
  obtain ⟨q,hq⟩:=choose_lt each
  have hsp:0<len→a.spot=none:=fun h0=>by
   obtain ⟨h1,h2,_⟩:=hq 0 h0
   have h3:0<(f (q 0)).length:=by omega
   have:=World.cell?_spot (h1 0 _ (List.getElem?_eq_getElem h3))
   simpa[Addr.add] using this
  obtain ⟨b,o,sp⟩:=a
  refine ⟨(List.range len).map q,some ⟨b,o,sp⟩,cap,by simp,(fun e=>by cases e),by simpa using hl,hm,(fun ad e hp=>by cases e;exact hsp (by simpa using hp)),?_,?_⟩
  ·intro ad e i hi
   cases e
   have hi' : i<len:=by simpa using hi
   have hs:=hsp (by omega)
   simp only at hs
   subst hs
   intro j u hu
   have:=(hq i hi').1 j u (by simpa using hu)
   rw[Addr.add_lit] at this
   rw[Nat.add_assoc]
   exact this
  ·intro r hr
   obtain ⟨i,hi,rfl⟩:=List.mem_map.1 hr
   have hi' : i<len:=List.mem_range.1 hi
   refine ⟨D i,(hq i hi').2.2,fun m hm => ?_⟩
   rw[hx0]
   simp only[DataW.weights,ht,List.mem_cons,List.mem_append]
   exact Or.inr (Or.inl (zgn (List.mem_map.2 ⟨i,hi,rfl⟩) _ hm))
theorem zws {H:Type} {enc:TypeId × Value→H} {W:World} {fuel:Nat} {v:Value} {x:DataW H × List MemPlace} (h:DataW.trod enc Tryz.prog W 0 (fun _=>true) true fuel 23 [v]=some x) :
  ∃ (l:List Int) (ao:Option Addr) (c:Nat),v = .slice ao l.length c∧Nts W ao c l:=by
 rcases open_ints Tryz.underlying23 Tryz.underlying3 (by kernel_rfl) h with ⟨hcs,_⟩ | ⟨x,l,c,zs,hcs,_,hl,hm,hz,_,hcell,hwz⟩
 ·simp only[List.cons.injEq,and_true] at hcs
  subst hcs
  exact ⟨[],none,0,rfl,⟨fun _=>⟨rfl,rfl⟩,Nat.le_refl _,Nat.zero_le _,(fun _ h=>by cases h),(fun _ h=>by cases h)⟩⟩
 ·simp only[List.cons.injEq,and_true] at hcs
  subst hcs
  have hzc:zs.length=c:=by simpa using hz
  have hsp:0<zs.length→x.spot=none:=fun h0=>by
   have:=World.cell?_spot (hcell 0 h0)
   simpa[Addr.add] using this
  have hzl:(zs.take l).length=l:=by simp;omega
  refine ⟨zs.take l,some x,c,by rw[hzl],⟨(fun e=>by cases e),by omega,hm,(fun ad e hp=>by cases e;exact hsp (by omega)),(fun ad e i hi => ?_)⟩⟩
  cases e
  have hi' : i<l:=by omega
  have hs:=hsp (by omega)
  have hc:=hcell i (by omega)
  obtain ⟨b,o,s⟩:=x
  simp only at hs
  subst hs
  rw[Addr.add_lit] at hc
  rw[hc]
  simp[List.getD,List.getElem?_eq_getElem (show i<zs.length by omega)]
theorem zne:∃ f0 f1 f2 f3:Field,Tryz.prog.underlying 82=some (.struct #[f0,f1,f2,f3])∧(f0.type=3∧f0.offset=0)∧(f1.type=23∧f1.offset=1)∧(f2.type=68∧f2.offset=2)∧(f3.type=4∧f3.offset=3) :=
 ⟨_,_,_,_,Tryz.underlying82,⟨rfl,rfl⟩,⟨rfl,rfl⟩,⟨rfl,rfl⟩,⟨rfl,rfl⟩⟩
set_option maxRecDepth 100000 in
theorem zt0 {H:Type} {enc:TypeId × Value→H} {W:World} {n:Nat} {cs:List Value} {x:DataW H × List MemPlace} (h:DataW.trod enc Tryz.prog W 0 (fun _=>true) true n 82 cs=some x) :
  ∃ p:PlnR,cs=plC p∧Nts W p.ao p.c p.pl∧p.n<18446744073709551616:=by
 obtain ⟨f0,f1,f2,f3,he,⟨t0,o0⟩,⟨t1,o1⟩,⟨t2,o2⟩,⟨t3,o3⟩⟩:=zne
 have k0:Tryz.prog.cellsOf 3=1:=by kernel_rfl
 have k1:Tryz.prog.cellsOf 23=1:=by kernel_rfl
 have k2:Tryz.prog.cellsOf 68=1:=by kernel_rfl
 have k3:Tryz.prog.cellsOf 4=1:=by kernel_rfl
 have k5:Tryz.prog.cellsOf 82=4:=by kernel_rfl
 obtain ⟨xs,k,hk,hxy,hl,hxl,hf⟩:=DataW.trod_struct he h
 rw[k5] at hl
 match xs,hxl,cs,hl with
 | [y0,y1,y2,y3],_,[v0,v1,v2,v3],_ =>
  have g0:=hf 0 f0 rfl
  have g1:=hf 1 f1 rfl
  have g2:=hf 2 f2 rfl
  have g3:=hf 3 f3 rfl
  rw[t0,o0,k0] at g0
  rw[t1,o1,k1] at g1
  rw[t2,o2,k2] at g2
  rw[t3,o3,k3] at g3
  simp only[List.drop_zero,List.drop_succ_cons,List.take_succ_cons,List.take_zero,List.getElem?_cons_zero,List.getElem?_cons_succ] at g0 g1 g2 g3
  obtain ⟨z0,e0,_,_⟩:=DataW.trod_int Tryz.underlying3 g0
  obtain ⟨l,ao,c,e1,hN⟩:=zws g1
  obtain ⟨z2,e2,_,wz⟩:=DataW.trod_int Tryz.underlying68 g2
  obtain ⟨b,e3,_⟩:=DataW.trod_bool Tryz.underlying4 g3
  have hz:=bounds_u64 wz
  simp only[List.cons.injEq,and_true] at e0 e2 e3
  have hz2:((z2.toNat:Nat):Int)=z2:=by omega
  refine ⟨⟨z0,ao,c,l,z2.toNat,b⟩,?_,hN,by show z2.toNat<_;omega⟩
  rw[e0,e1,e2,e3]
  show _=[Value.int .i64 z0,Value.slice ao l.length c,Value.int .u64 ((z2.toNat:Nat):Int),Value.bool b]
  rw[hz2]
theorem zt1 {H:Type} {enc:TypeId × Value→H} {W:World} {a:Option Addr} {len cap:Nat} {d:DataW H} {p:List MemPlace} (h:DataW.Trod enc Tryz.prog W 0 (fun _=>true) true 22 (.slice a len cap) d p) :
  ∃ L:List PlnR,L.length=len∧Plns W a cap L:=by
 obtain ⟨fuel,hf⟩:=h
 obtain ⟨L,ao,c,hv,h1,h2,h3,h4,h5,h6⟩:=ztz (α:=PlnR) (K:=4) (v := .slice a len cap) plC (fun p _=>Nts W p.ao p.c p.pl∧p.n<18446744073709551616) Tryz.underlying22 (by kernel_rfl) (by decide) (fun n cs y hy=>by
  obtain ⟨l,e1,e2,e3⟩:=zt0 hy
  exact ⟨l,e1,e2,e3⟩) (by simpa[Value.cells] using hf)
 injection hv with e1 e2 e3
 subst e1 e2 e3
 exact ⟨L,rfl,⟨h1,h2,h3,h4,h5,fun r hr=>by obtain ⟨_,⟨e,_⟩,_⟩:=h6 r hr;exact e,fun r hr=>by obtain ⟨_,⟨_,e⟩,_⟩:=h6 r hr;exact e⟩⟩
end Go.Proofs.YthhnfloohbdaiaaGreatDoor
