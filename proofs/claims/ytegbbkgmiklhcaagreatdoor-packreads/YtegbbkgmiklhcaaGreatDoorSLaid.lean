/- Lemmas. -/
import Derived.ProofKit
import Derived.OpenShut
import Derived.Deep.Slices
import Derived.Test.YtegbbkgmiklhcaaGreatDoorSHash
import Derived.LaidMore
import Derived.Lib.LaidTab
import Derived.Stop.LaidErr
namespace Go.Proofs.YtegbbkgmiklhcaaGreatDoor
open Go.ChangeShapes Go.WideShapes Go.ChangeAt Go.RowKit Go.Deep
theorem zss:ownKnob Tryz.prog.godebug=none:=by kernel_rfl
theorem zst:laidOutB Tryz.prog=true:=by kernel_rfl
theorem zsu {H:Type} {enc:TypeId × Value→H} {W:World} {a:Option Addr} {len cap:Nat} {d:DataW H} {p:List MemPlace} (h:DataW.Trod enc Tryz.prog W 0 (fun _=>true) true 24 (.slice a len cap) d p) :
  ∃ l:List UInt8,l.length=len∧Bts W a cap l:=by
 obtain ⟨fuel,hf⟩:=h
 rcases open_ints Tryz.underlying24 Tryz.underlying5 (by kernel_rfl) hf with ⟨hcs,_⟩ | ⟨x,l,c,zs,hcs,_,hl,hm,hz,_,hcell,hwz⟩
 ·simp[Value.cells] at hcs
  obtain ⟨rfl,rfl,rfl⟩:=hcs
  exact ⟨[],rfl,Bts.nil _⟩
 ·simp[Value.cells] at hcs
  obtain ⟨rfl,rfl,rfl⟩:=hcs
  have hzc:zs.length=cap:=by simpa using hz
  have hsp:0<zs.length→x.spot=none:=fun h0=>by
   have:=World.cell?_spot (hcell 0 h0)
   simpa[Addr.add] using this
  refine ⟨(zs.take len).map fun z=>UInt8.ofNat z.toNat,by simp;omega,⟨(fun e=>by cases e),by simp;omega,hm,(fun ad e hp=>by cases e;exact hsp (by simp at hp;omega)),(fun ad e i hi => ?_)⟩⟩
  cases e
  have hi' : i<len:=by simp at hi;omega
  have hs:=hsp (by omega)
  have hc:=hcell i (by omega)
  obtain ⟨b,o,s⟩:=x
  simp only at hs
  subst hs
  rw[Addr.add_lit] at hc
  rw[hc]
  have hw:=hwz _ (List.getElem_mem (show i<zs.length by omega))
  have hb:=bounds_u8 hw
  simp only[List.getElem_map,List.getElem_take,List.getD,List.getElem?_eq_getElem (show i<zs.length by omega),Option.getD_some]
  congr 2
  rw[UInt8.toNat_ofNat']
  omega
end Go.Proofs.YtegbbkgmiklhcaaGreatDoor

/- Lemmas. -/
namespace Go.Proofs.YtegbbkgmiklhcaaGreatDoor
open Go.ChangeShapes Go.WideShapes Go.ChangeAt Go.RowKit
def zod:List (String × DataW Unit):=[("coffret/sha.squareRoots",Rows.laid_coffret_sha_squareRoots),("coffret/sha.cubeRoots",Rows.laid_coffret_sha_cubeRoots)]
theorem zuj:(Rows.laid_coffret_sha_squareRoots:DataW Unit)=Lib.tabData .u32 (Hs.map wz):=by kernel_rfl
theorem zuk:(Rows.laid_coffret_sha_cubeRoots:DataW Unit)=Lib.tabData .u32 (Ks.map wz):=by kernel_rfl
theorem g_sq:Tryz.prog.globalNamed "coffret/sha.squareRoots" = some 1:=by kernel_rfl
theorem g_cu:Tryz.prog.globalNamed "coffret/sha.cubeRoots" = some 0:=by kernel_rfl
theorem t_sq:(Tryz.prog.globals[1]?).map (·.type)=some 141:=by kernel_rfl
theorem t_cu:(Tryz.prog.globals[0]?).map (·.type)=some 181:=by kernel_rfl
theorem zqu {W:World} {name:String} {g:Nat} {cs:Array Value} (hg:Tryz.prog.globalNamed name=some g) (h:W.var? Tryz.prog name=some cs):∃ t fr,W.heap[g]? = some (.cells cs t fr):=by
 unfold World.var? at h
 rw[hg,Option.bind_some] at h
 split at h
 ·rename_i cs' t fr hh
  cases h
  exact ⟨t,fr,hh⟩
 ·cases h
theorem zsv (l:List W):(l.map wz).map (fun z=>Value.int .u32 z)=l.map wv:=by
 rw[List.map_map];rfl
theorem zkb {W:World} (h:laidMetH Tryz.prog zod W):Tabs W:=by
 rw[MakeChecks.laidMetH_plain _ _ _ (by kernel_rfl)] at h
 unfold zod at h
 rw[zuj,zuk] at h
 have h1:=Lib.tabIs_of_head g_sq t_sq Tryz.underlying141 Tryz.underlying140 (by kernel_rfl) (by kernel_rfl) h
 have h2:=Lib.tabIs_of_head g_cu t_cu Tryz.underlying181 Tryz.underlying140 (by kernel_rfl) (by kernel_rfl) h.tail
 unfold Lib.TabIs at h1 h2
 rw[zsv] at h1 h2
 exact ⟨zqu g_cu h2,zqu g_sq h1⟩
theorem zsw (os:Os) (args:Array Value):laidMetH Tryz.prog zod ((World.doorLaid Tryz.prog 400 os).forCall (fun _ _=>0) ⟨#[],args,[]⟩).memory :=
 laidMetH_of_parts3 (fuel:=8) (laidMet_of_run' 8 (by kernel_rfl) (by kernel_rfl)) (by kernel_rfl) (by kernel_rfl)
end Go.Proofs.YtegbbkgmiklhcaaGreatDoor
