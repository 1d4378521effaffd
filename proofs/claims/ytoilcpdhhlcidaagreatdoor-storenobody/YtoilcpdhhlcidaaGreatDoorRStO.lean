/- Lemmas. -/
import Derived.Test.YtoilcpdhhlcidaaGreatDoorRStA
import Derived.Test.YtoilcpdhhlcidaaGreatDoorMSame
import Derived.Test.YtoilcpdhhlcidaaGreatDoorMNts
import Derived.Deep.DeepCutAuto
import Derived.Deep.CutBlock
namespace Go.Proofs.YtoilcpdhhlcidaaGreatDoor
open Go.RowKit
def kyC (V:List (List UInt8 × List UInt8)):List Value:=V.map fun y => .string (str y.1)
def vlC (V:List (List UInt8 × List UInt8)):List Value:=V.map fun y => .string (str y.2)
def rsC (ko:Option Addr) (kc:Nat) (vo:Option Addr) (vc:Nat) (s:RSt):List Value:=[.slice ko s.V.length kc,.slice vo s.V.length vc,.int .i64 (s.half:Int),.int .i64 (s.used:Int),.int .i64 (s.moves:Int)]
structure RsW (w:World) (ko:Option Addr) (kc:Nat) (vo:Option Addr) (vc:Nat) (s:RSt):Prop where
 keys:Cel w ko kc (kyC s.V)
 vals:Cel w vo vc (vlC s.V)
theorem RsW.kept {w a:World} {ko:Option Addr} {kc:Nat} {vo:Option Addr} {vc:Nat} {s:RSt} (h:RsW w ko kc vo vc s) (g:w.grownBy a none):RsW a ko kc vo vc s:=⟨h.keys.kept g,h.vals.kept g⟩
structure ChI where
 key:List UInt8
 bo:Option Addr
 bc:Nat
 val:List UInt8
 gone:Bool
deriving Inhabited
def ciC (x:ChI):List Value:=[.string (str x.key),.slice x.bo x.val.length x.bc,.bool x.gone]
def ChI.chg (x:ChI):Chg:=⟨x.key,x.val,x.gone⟩
structure CsI (w:World) (ao:Option Addr) (c:Nat) (L:List ChI):Prop where
 row:Rws w 3 ciC ao c L
 val:∀ x∈L,Bts w x.bo x.bc x.val
theorem CsI.kept {w a:World} {ao:Option Addr} {c:Nat} {L:List ChI} (h:CsI w ao c L) (g:w.grownBy a none):CsI a ao c L:=⟨h.row.kept g,fun x hx=>(h.val x hx).kept g (fun _ e=>by cases e)⟩
end Go.Proofs.YtoilcpdhhlcidaaGreatDoor
