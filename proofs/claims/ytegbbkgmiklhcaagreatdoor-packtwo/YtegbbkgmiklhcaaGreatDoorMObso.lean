/- Lemmas. -/
import Derived.ProofKit
import Derived.OpenShut
import Derived.Deep.Slices
import Derived.Test.YtegbbkgmiklhcaaGreatDoorSHash
import Derived.LaidMore
import Derived.Lib.LaidTab
import Derived.Stop.LaidErr
import Derived.Test.YtegbbkgmiklhcaaGreatDoorOData
import Derived.SizedLaws
namespace Go.Proofs.YtegbbkgmiklhcaaGreatDoor
open Go.ChangeShapes Go.WideShapes Go.ChangeAt Go.RowKit Go.Deep
theorem zon:ownKnob Tryz.prog.godebug=none:=by kernel_rfl
theorem zju:laidOutB Tryz.prog=true:=by kernel_rfl
theorem zoo {H:Type} {enc:TypeId × Value→H} {W:World} {a:Option Addr} {len cap:Nat} {d:DataW H} {p:List MemPlace} (h:DataW.Trod enc Tryz.prog W 0 (fun _=>true) true 24 (.slice a len cap) d p) :
  ∃ l:List UInt8,l.length=len∧Bts W a cap l:=by
 obtain ⟨fuel,hf⟩:=h
 rcases open_ints Tryz.underlying24 Tryz.underlying5 (by kernel_rfl) hf with ⟨hcs,_⟩ | ⟨x,l,c,zs,hcs,_,hl,hm,hz,_,hcell,hwz⟩
 ·simp[Value.cells] at hcs
  obtain ⟨rfl,rfl,rfl⟩:=hcs
  exact ⟨[],rfl,Bts.nil _⟩
 ·simp[Value.cells] at hcs
  obtain ⟨rfl,rfl,rfl⟩:=hcs
  have hzc:zs.length=cap:=by simpa using hz
  have hsp:0<zs.length→x.spot=none:=fun h0=>by
   have:=World.cell?_spot (hcell 0 h0)
   simpa[Addr.add] using this
  refine ⟨(zs.take len).map fun z=>UInt8.ofNat z.toNat,by simp;omega,⟨(fun e=>by cases e),by simp;omega,hm,(fun ad e hp=>by cases e;exact hsp (by simp at hp;omega)),(fun ad e i hi => ?_)⟩⟩
  cases e
  have hi' : i<len:=by simp at hi;omega
  have hs:=hsp (by omega)
  have hc:=hcell i (by omega)
  obtain ⟨b,o,s⟩:=x
  simp only at hs
  subst hs
  rw[Addr.add_lit] at hc
  rw[hc]
  have hw:=hwz _ (List.getElem_mem (show i<zs.length by omega))
  have hb:=bounds_u8 hw
  simp only[List.getElem_map,List.getElem_take,List.getD,List.getElem?_eq_getElem (show i<zs.length by omega),Option.getD_some]
  congr 2
  rw[UInt8.toNat_ofNat']
  omega
theorem zop {H:Type} {enc:TypeId × Value→H} {W:World} {fuel:Nat} {v:Value} {x:DataW H × List MemPlace} (h:DataW.trod enc Tryz.prog W 0 (fun _=>true) true fuel 24 [v]=some x) :
  ∃ l ao c,v = .slice ao (l:List UInt8).length c∧Bts W ao c l:=by
 have hv:∃ ao n c,v = .slice ao n c:=by
  rcases open_ints Tryz.underlying24 Tryz.underlying5 (by kernel_rfl) h with ⟨hcs,_⟩ | ⟨y,l,c,zs,hcs,_⟩
  ·cases hcs;exact ⟨_,_,_,rfl⟩
  ·cases hcs;exact ⟨_,_,_,rfl⟩
 obtain ⟨ao,n,c,rfl⟩:=hv
 obtain ⟨l,h1,h2⟩:=zoo (enc:=enc) (W:=W) (a:=ao) (len:=n) (cap:=c) (d:=x.1) (p:=x.2) ⟨fuel,by simpa[Value.cells] using h⟩
 exact ⟨l,ao,c,by rw[h1],h2⟩
end Go.Proofs.YtegbbkgmiklhcaaGreatDoor

/- Lemmas. -/
namespace Go.Proofs.YtegbbkgmiklhcaaGreatDoor
open Go.ChangeShapes Go.WideShapes Go.ChangeAt Go.RowKit
def zk9:List (String × DataW Unit):=[("coffret/sha.squareRoots",Rows.laid_coffret_sha_squareRoots),("coffret/sha.cubeRoots",Rows.laid_coffret_sha_cubeRoots)]
theorem zqd:(Rows.laid_coffret_sha_squareRoots:DataW Unit)=Lib.tabData .u32 (Hs.map wz):=by kernel_rfl
theorem zqe:(Rows.laid_coffret_sha_cubeRoots:DataW Unit)=Lib.tabData .u32 (Ks.map wz):=by kernel_rfl
theorem g_sq:Tryz.prog.globalNamed "coffret/sha.squareRoots" = some 1:=by kernel_rfl
theorem g_cu:Tryz.prog.globalNamed "coffret/sha.cubeRoots" = some 0:=by kernel_rfl
theorem t_sq:(Tryz.prog.globals[1]?).map (·.type)=some 141:=by kernel_rfl
theorem t_cu:(Tryz.prog.globals[0]?).map (·.type)=some 181:=by kernel_rfl
theorem zm5 {W:World} {name:String} {g:Nat} {cs:Array Value} (hg:Tryz.prog.globalNamed name=some g) (h:W.var? Tryz.prog name=some cs):∃ t fr,W.heap[g]? = some (.cells cs t fr):=by
 unfold World.var? at h
 rw[hg,Option.bind_some] at h
 split at h
 ·rename_i cs' t fr hh
  cases h
  exact ⟨t,fr,hh⟩
 ·cases h
theorem zoq (l:List W):(l.map wz).map (fun z=>Value.int .u32 z)=l.map wv:=by
 rw[List.map_map];rfl
theorem zh7 {W:World} (h:laidMetH Tryz.prog zk9 W):Tabs W:=by
 rw[MakeChecks.laidMetH_plain _ _ _ (by kernel_rfl)] at h
 unfold zk9 at h
 rw[zqd,zqe] at h
 have h1:=Lib.tabIs_of_head g_sq t_sq Tryz.underlying141 Tryz.underlying140 (by kernel_rfl) (by kernel_rfl) h
 have h2:=Lib.tabIs_of_head g_cu t_cu Tryz.underlying181 Tryz.underlying140 (by kernel_rfl) (by kernel_rfl) h.tail
 unfold Lib.TabIs at h1 h2
 rw[zoq] at h1 h2
 exact ⟨zm5 g_cu h2,zm5 g_sq h1⟩
theorem zor (os:Os) (args:Array Value):laidMetH Tryz.prog zk9 ((World.doorLaid Tryz.prog 400 os).forCall (fun _ _=>0) ⟨#[],args,[]⟩).memory :=
 laidMetH_of_parts3 (fuel:=8) (laidMet_of_run' 8 (by kernel_rfl) (by kernel_rfl)) (by kernel_rfl) (by kernel_rfl)
end Go.Proofs.YtegbbkgmiklhcaaGreatDoor

/- Lemmas. -/
namespace Go.Proofs.YtegbbkgmiklhcaaGreatDoor
open Go.ChangeShapes Go.WideShapes Go.ChangeAt Go.RowKit Go.Deep
theorem zd7 {H:Type} {P:Program} {e:TypeId} : ∀ {l:List (DataW H)} {d:DataW H},d∈l→∀ n∈d.weights P e,n∈DataW.weightsAll P e l
 | d'::r,d,hd,n,hn=>by
  simp only[DataW.weightsAll,List.mem_append]
  rcases List.mem_cons.1 hd with rfl | h
  ·exact Or.inl hn
  ·exact Or.inr (zd7 h n hn)
theorem zm6 {H:Type} {enc:TypeId × Value→H} {W:World} {α:Type} [Inhabited α] {t e:TypeId} {K fuel:Nat} {v:Value} {x:DataW H × List MemPlace} (f:α→List Value) (Pd:α→DataW H→Prop)
  (ht:Tryz.prog.underlying t=some (.slice e)) (hK:Tryz.prog.cellsOf e=K) (hK0:0<K)
  (hel:∀ (n:Nat) (cs:List Value) (y:DataW H × List MemPlace),DataW.trod enc Tryz.prog W 0 (fun _=>true) true n e cs=some y→∃ r:α,cs=f r∧Pd r y.1)
  (h:DataW.trod enc Tryz.prog W 0 (fun _=>true) true fuel t [v]=some x) :
  ∃ (L:List α) (ao:Option Addr) (c:Nat),v = .slice ao L.length c∧(ao=none→L.length=0∧c=0)∧L.length≤c∧c≤maxLen∧(∀ ad,ao=some ad→0<L.length→ad.spot=none) ∧
   (∀ ad,ao=some ad→∀ i (h:i<L.length),W.rangeAt ad.block (ad.off+i*K) (f L[i]))∧∀ r∈L,∃ d',Pd r d'∧∀ m∈d'.weights Tryz.prog e,m∈x.1.weights Tryz.prog t:=by
 rcases open_slice ht h with ⟨hcs,_⟩ | ⟨a,len,cap,m,n,D,Pl,hcs,_,hl,hm,hmm,hx0,hx⟩
 ·simp only[List.cons.injEq,and_true] at hcs
  subst hcs
  exact ⟨[],none,0,rfl,fun _=>⟨rfl,rfl⟩,Nat.le_refl _,Nat.zero_le _,(fun _ e=>by cases e),(fun _ e=>by cases e),(fun _ e=>by cases e)⟩
 ·simp only[List.cons.injEq,and_true] at hcs
  subst hcs
  have hmc:m=cap:=by rw[hmm];rfl
  have each:∀ i,i<len→∃ r:α,(∀ j u,(f r)[j]? = some u→W.cell? (a.add (i*K+j))=some u)∧(f r).length=K∧Pd r (D i):=by
   intro i hi
   obtain ⟨cs',h1,h2⟩:=hx i (by omega)
   rw[hK] at h1
   obtain ⟨_,hlen,hcell⟩:=World.cells?_some h1
   obtain ⟨r,rfl,hp⟩:=hel _ _ _ h2
   refine ⟨r,fun j u hu => ?_,hlen,hp⟩
   obtain ⟨hj,hu2⟩:=List.getElem?_eq_some_iff.1 hu
   have e0:=hcell j (by omega)
   rw[add_add] at e0
   rw[e0,← hu2]
   simp[hj]
  obtain ⟨q,hq⟩:=choose_lt each
  have hsp:0<len→a.spot=none:=fun h0=>by
   obtain ⟨h1,h2,_⟩:=hq 0 h0
   have h3:0<(f (q 0)).length:=by omega
   have:=World.cell?_spot (h1 0 _ (List.getElem?_eq_getElem h3))
   simpa[Addr.add] using this
  obtain ⟨b,o,sp⟩:=a
  refine ⟨(List.range len).map q,some ⟨b,o,sp⟩,cap,by simp,(fun e=>by cases e),by simpa using hl,hm,(fun ad e hp=>by cases e;exact hsp (by simpa using hp)),?_,?_⟩
  ·intro ad e i hi
   cases e
   have hi' : i<len:=by simpa using hi
   have hs:=hsp (by omega)
   simp only at hs
   subst hs
   intro j u hu
   have:=(hq i hi').1 j u (by simpa using hu)
   rw[Addr.add_lit] at this
   rw[Nat.add_assoc]
   exact this
  ·intro r hr
   obtain ⟨i,hi,rfl⟩:=List.mem_map.1 hr
   have hi' : i<len:=List.mem_range.1 hi
   refine ⟨D i,(hq i hi').2.2,fun m hm => ?_⟩
   rw[hx0]
   simp only[DataW.weights,ht,List.mem_cons,List.mem_append]
   exact Or.inr (Or.inl (zd7 (List.mem_map.2 ⟨i,hi,rfl⟩) _ hm))
theorem zla:∃ f0 f1:Field,Tryz.prog.underlying 42=some (.struct #[f0,f1])∧(f0.type=3∧f0.offset=0)∧(f1.type=24∧f1.offset=1) :=
 ⟨_,_,Tryz.underlying42,⟨rfl,rfl⟩,⟨rfl,rfl⟩⟩
set_option maxRecDepth 100000 in
theorem zos {H:Type} {enc:TypeId × Value→H} {W:World} {n:Nat} {cs:List Value} {x:DataW H × List MemPlace} (h:DataW.trod enc Tryz.prog W 0 (fun _=>true) true n 42 cs=some x) :
  ∃ r:ObP,cs=obP r∧Bts W r.ao r.c r.d:=by
 obtain ⟨f0,f1,he,⟨t0,o0⟩,⟨t1,o1⟩⟩:=zla
 have k0:Tryz.prog.cellsOf 3=1:=by kernel_rfl
 have k3:Tryz.prog.cellsOf 24=1:=by kernel_rfl
 have k5:Tryz.prog.cellsOf 42=2:=by kernel_rfl
 obtain ⟨xs,k,hk,hxy,hl,hxl,hf⟩:=DataW.trod_struct he h
 rw[k5] at hl
 match xs,hxl,cs,hl with
 | [y0,y1],_,[v0,v1],_ =>
  have g0:=hf 0 f0 rfl
  have g1:=hf 1 f1 rfl
  rw[t0,o0,k0] at g0
  rw[t1,o1,k3] at g1
  simp only[List.drop_zero,List.drop_succ_cons,List.take_succ_cons,List.take_zero,List.getElem?_cons_zero,List.getElem?_cons_succ] at g0 g1
  obtain ⟨z0,e0,_,_⟩:=DataW.trod_int Tryz.underlying3 g0
  obtain ⟨l3,a3,c3,e3,b3⟩:=zop g1
  refine ⟨⟨z0,l3,a3,c3⟩,?_,b3⟩
  simp only[List.cons.injEq,and_true] at e0
  rw[e0,e3]
  rfl
theorem zjv {H:Type} {enc:TypeId × Value→H} {W:World} {a:Option Addr} {len cap:Nat} {d:DataW H} {p:List MemPlace} (h:DataW.Trod enc Tryz.prog W 0 (fun _=>true) true 22 (.slice a len cap) d p) :
  ∃ L:List ObP,L.length=len∧Obsl W a cap L:=by
 obtain ⟨fuel,hf⟩:=h
 obtain ⟨L,ao,c,hv,h1,h2,h3,h4,h5,h6⟩:=zm6 (α:=ObP) (K:=2) (v := .slice a len cap) obP (fun r _=>Bts W r.ao r.c r.d) Tryz.underlying22 (by kernel_rfl) (by decide) (fun n cs y hy=>by
  obtain ⟨l,e1,e2⟩:=zos hy
  exact ⟨l,e1,e2⟩) (by simpa[Value.cells] using hf)
 injection hv with e1 e2 e3
 subst e1 e2 e3
 exact ⟨L,rfl,⟨h1,h2,h3,h4,h5,fun r hr=>by obtain ⟨_,e,_⟩:=h6 r hr;exact e⟩⟩
end Go.Proofs.YtegbbkgmiklhcaaGreatDoor
