/- Lemmas. -/
import Derived.Test.YtoilcpdhhlcidaaGreatDoorRStA
import Derived.Test.YtoilcpdhhlcidaaGreatDoorMSame
import Derived.Test.YtoilcpdhhlcidaaGreatDoorMMsk
import Derived.Deep.DeepCutAuto
import Derived.Deep.CutBlock
namespace Go.Proofs.YtoilcpdhhlcidaaGreatDoor
open Go.RowKit
def kyC (V:List (List UInt8 × List UInt8)):List Value:=V.map fun y => .string (str y.1)
def vlC (V:List (List UInt8 × List UInt8)):List Value:=V.map fun y => .string (str y.2)
def rsC (ko:Option Addr) (kc:Nat) (vo:Option Addr) (vc:Nat) (s:RSt):List Value:=[.slice ko s.V.length kc,.slice vo s.V.length vc,.int .i64 (s.half:Int),.int .i64 (s.used:Int),.int .i64 (s.moves:Int)]
structure RsW (w:World) (ko:Option Addr) (kc:Nat) (vo:Option Addr) (vc:Nat) (s:RSt):Prop where
 keys:Cel w ko kc (kyC s.V)
 vals:Cel w vo vc (vlC s.V)
theorem RsW.kept {w a:World} {ko:Option Addr} {kc:Nat} {vo:Option Addr} {vc:Nat} {s:RSt} (h:RsW w ko kc vo vc s) (g:w.grownBy a none):RsW a ko kc vo vc s:=⟨h.keys.kept g,h.vals.kept g⟩
structure ChI where
 key:List UInt8
 bo:Option Addr
 bc:Nat
 val:List UInt8
 gone:Bool
deriving Inhabited
def ciC (x:ChI):List Value:=[.string (str x.key),.slice x.bo x.val.length x.bc,.bool x.gone]
def ChI.chg (x:ChI):Chg:=⟨x.key,x.val,x.gone⟩
structure RwO {α:Type} (w:World) (K:Nat) (f:α→List Value) (ao:Option Addr) (c:Nat) (L:List α):Prop where
 zip:ao=none→L.length=0∧c=0
 fits:L.length≤c
 most:c≤maxLen
 spot:∀ ad,ao=some ad→0<L.length→ad.spot=none
 row:∀ ad,ao=some ad→∀ i (h:i<L.length),w.rangeAt ad.block (ad.off+i*K) (f L[i])
theorem RwO.kept {α:Type} {w a:World} {K:Nat} {f:α→List Value} {ao:Option Addr} {c:Nat} {L:List α} (h:RwO w K f ao c L) (g:w.grownBy a none):RwO a K f ao c L :=
 ⟨h.zip,h.fits,h.most,h.spot,fun ad e i hi=>zal (h.row ad e i hi) g (by simp)⟩
theorem RwO.at {α:Type} {w:World} {K:Nat} {f:α→List Value} {ao:Option Addr} {c:Nat} {L:List α} (h:RwO w K f ao c L) (i:Nat) (hi:i<L.length):∃ b o,ao=some ⟨b,o,none⟩∧w.rangeAt b (o+i*K) (f L[i]):=by
 cases ao with
 | none=>have:=(h.zip rfl).1;omega
 | some ad =>
   have hs:=h.spot ad rfl (by omega)
   have hc:=h.row ad rfl i hi
   obtain ⟨b,o,s⟩:=ad
   simp only at hs hc
   subst hs
   exact ⟨b,o,rfl,hc⟩
theorem Rws.o {α:Type} {w:World} {K:Nat} {f:α→List Value} {ao:Option Addr} {c:Nat} {L:List α} (h:Rws w K f ao c L):RwO w K f ao c L:=⟨h.zip,h.fits,h.most,fun ad e _=>h.spot ad e,h.row⟩
instance {α:Type} {w:World} {K:Nat} {f:α→List Value} {ao:Option Addr} {c:Nat} {L:List α} : Coe (Rws w K f ao c L) (RwO w K f ao c L):=⟨Rws.o⟩
structure CsI (w:World) (ao:Option Addr) (c:Nat) (L:List ChI):Prop where
 row:RwO w 3 ciC ao c L
 val:∀ x∈L,Bts w x.bo x.bc x.val
theorem CsI.kept {w a:World} {ao:Option Addr} {c:Nat} {L:List ChI} (h:CsI w ao c L) (g:w.grownBy a none):CsI a ao c L:=⟨h.row.kept g,fun x hx=>(h.val x hx).kept g (fun _ e=>by cases e)⟩
end Go.Proofs.YtoilcpdhhlcidaaGreatDoor
