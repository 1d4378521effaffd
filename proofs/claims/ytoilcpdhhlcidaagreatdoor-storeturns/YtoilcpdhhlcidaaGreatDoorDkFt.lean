/- Lemmas. -/
import Derived.ProofKit
import Derived.OpenShut
import Derived.Deep.Slices
import Derived.SizedLaws
import Derived.Test.YtoilcpdhhlcidaaGreatDoorDkL
namespace Go.Proofs.YtoilcpdhhlcidaaGreatDoor
open Go.ChangeShapes Go.WideShapes Go.ChangeAt Go.RowKit Go.Deep
theorem zn8:ownKnob Tryz.prog.godebug=none:=by kernel_rfl
theorem zn9:laidOutB Tryz.prog=true:=by kernel_rfl
theorem zoa {H:Type} {enc:TypeId × Value→H} {W:World} {a:Option Addr} {len cap:Nat} {d:DataW H} {p:List MemPlace} (h:DataW.Trod enc Tryz.prog W 0 (fun _=>true) true 53 (.slice a len cap) d p) :
  ∃ l:List UInt8,l.length=len∧Bts W a cap l:=by
 obtain ⟨fuel,hf⟩:=h
 rcases open_ints Tryz.underlying53 Tryz.underlying5 (by kernel_rfl) hf with ⟨hcs,_⟩ | ⟨x,l,c,zs,hcs,_,hl,hm,hz,_,hcell,hwz⟩
 ·simp[Value.cells] at hcs
  obtain ⟨rfl,rfl,rfl⟩:=hcs
  exact ⟨[],rfl,Bts.nil _⟩
 ·simp[Value.cells] at hcs
  obtain ⟨rfl,rfl,rfl⟩:=hcs
  have hzc:zs.length=cap:=by simpa using hz
  have hsp:0<zs.length→x.spot=none:=fun h0=>by
   have:=World.cell?_spot (hcell 0 h0)
   simpa[Addr.add] using this
  refine ⟨(zs.take len).map fun z=>UInt8.ofNat z.toNat,by simp;omega,⟨(fun e=>by cases e),by simp;omega,hm,(fun ad e hp=>by cases e;exact hsp (by simp at hp;omega)),(fun ad e i hi => ?_)⟩⟩
  cases e
  have hi' : i<len:=by simp at hi;omega
  have hs:=hsp (by omega)
  have hc:=hcell i (by omega)
  obtain ⟨b,o,s⟩:=x
  simp only at hs
  subst hs
  rw[Addr.add_lit] at hc
  rw[hc]
  have hw:=hwz _ (List.getElem_mem (show i<zs.length by omega))
  have hb:=bounds_u8 hw
  simp only[List.getElem_map,List.getElem_take,List.getD,List.getElem?_eq_getElem (show i<zs.length by omega),Option.getD_some]
  congr 2
  rw[UInt8.toNat_ofNat']
  omega
end Go.Proofs.YtoilcpdhhlcidaaGreatDoor

/- Lemmas. -/
namespace Go.Proofs.YtoilcpdhhlcidaaGreatDoor
open Go.RowKit
def ivc (z:Int):Value := .int .i64 z
end Go.Proofs.YtoilcpdhhlcidaaGreatDoor
