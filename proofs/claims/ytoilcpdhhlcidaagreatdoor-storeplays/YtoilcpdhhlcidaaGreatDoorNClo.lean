/- Lemmas. -/
import Derived.Test.YtoilcpdhhlcidaaGreatDoorMStr
import Derived.Shelf.Pu.Clone
namespace Go.Proofs.YtoilcpdhhlcidaaGreatDoor
open Go.RowKit Go.Shelf
def cloR:Ren :=
 ⟨fun n=>if n=25 then 68 else n,
  fun n=>if n=37 then 53 else if n=47 then 141 else if n=5 then 5 else if n=3 then 3 else if n=4 then 4 else if n=9 then 9 else n,
  fun n=>n⟩
theorem zss:LaysPu.n25 Tryz.prog cloR:=by constructor <;> (intros;kernel_rfl)
theorem zmg (w:World) (s:List UInt8) (hs:s.length≤100000):Calls Tryz.prog 68 #[.string (str s)] w fun e w'=>e = .returned (.string (str s))∧w.grownBy w' none :=
 (AnyPu.stringslite_Clone zss (str s) w (by rw[zaq];omega)).mono fun _ _ h=>⟨h.1,zdq h.2⟩
theorem zhg (w:World) (s:List UInt8) (hs:s.length≤100000):Calls Tryz.prog 43 #[.string (str s)] w fun e w'=>e = .returned (.string (str s))∧w.grownBy w' none:=by
 have hc:=zmg w s hs
 go_enter Tryz.func43,Tryz.ntmps43
 go_wp2_with fail
 refine hc.mono ?_
 rintro e w2 ⟨rfl,g2⟩
 clear hc
 go_wp2
 go_ret
 exact ⟨rfl,g2⟩
end Go.Proofs.YtoilcpdhhlcidaaGreatDoor
