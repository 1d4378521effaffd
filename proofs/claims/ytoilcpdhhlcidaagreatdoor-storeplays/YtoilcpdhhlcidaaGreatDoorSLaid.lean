/- Lemmas. -/
import Derived.Test.YtoilcpdhhlcidaaGreatDoorSHash
import Derived.Test.YtoilcpdhhlcidaaGreatDoorMOpen
import Derived.LaidMore
import Derived.Lib.LaidTab
import Derived.Stop.LaidErr
namespace Go.Proofs.YtoilcpdhhlcidaaGreatDoor
open Go.ChangeShapes Go.WideShapes Go.ChangeAt Go.RowKit
def zmq:List (String × DataW Unit):=[("coffret/sha.squareRoots",Rows.laid_coffret_sha_squareRoots),("coffret/sha.cubeRoots",Rows.laid_coffret_sha_cubeRoots)]
theorem zrz:(Rows.laid_coffret_sha_squareRoots:DataW Unit)=Lib.tabData .u32 (Hs.map wz):=by kernel_rfl
theorem zr0:(Rows.laid_coffret_sha_cubeRoots:DataW Unit)=Lib.tabData .u32 (Ks.map wz):=by kernel_rfl
theorem g_sq:Tryz.prog.globalNamed "coffret/sha.squareRoots" = some 1:=by kernel_rfl
theorem g_cu:Tryz.prog.globalNamed "coffret/sha.cubeRoots" = some 0:=by kernel_rfl
theorem t_sq:(Tryz.prog.globals[1]?).map (·.type)=some 166:=by kernel_rfl
theorem t_cu:(Tryz.prog.globals[0]?).map (·.type)=some 192:=by kernel_rfl
theorem zo6 {W:World} {name:String} {g:Nat} {cs:Array Value} (hg:Tryz.prog.globalNamed name=some g) (h:W.var? Tryz.prog name=some cs):∃ t fr,W.heap[g]? = some (.cells cs t fr):=by
 unfold World.var? at h
 rw[hg,Option.bind_some] at h
 split at h
 ·rename_i cs' t fr hh
  cases h
  exact ⟨t,fr,hh⟩
 ·cases h
theorem zql (l:List W):(l.map wz).map (fun z=>Value.int .u32 z)=l.map wv:=by
 rw[List.map_map];rfl
theorem zjp {W:World} (h:laidMetH Tryz.prog zmq W):Tabs W:=by
 rw[MakeChecks.laidMetH_plain _ _ _ (by kernel_rfl)] at h
 unfold zmq at h
 rw[zrz,zr0] at h
 have h1:=Lib.tabIs_of_head g_sq t_sq Tryz.underlying166 Tryz.underlying165 (by kernel_rfl) (by kernel_rfl) h
 have h2:=Lib.tabIs_of_head g_cu t_cu Tryz.underlying192 Tryz.underlying165 (by kernel_rfl) (by kernel_rfl) h.tail
 unfold Lib.TabIs at h1 h2
 rw[zql] at h1 h2
 exact ⟨zo6 g_cu h2,zo6 g_sq h1⟩
theorem zqm (os:Os) (args:Array Value):laidMetH Tryz.prog zmq ((World.doorLaid Tryz.prog 400 os).forCall (fun _ _=>0) ⟨#[],args,[]⟩).memory :=
 laidMetH_of_parts3 (fuel:=8) (laidMet_of_run' 8 (by kernel_rfl) (by kernel_rfl)) (by kernel_rfl) (by kernel_rfl)
end Go.Proofs.YtoilcpdhhlcidaaGreatDoor
