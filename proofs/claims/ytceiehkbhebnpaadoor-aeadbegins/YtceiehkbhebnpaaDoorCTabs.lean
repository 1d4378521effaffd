/- What a row that lists chacha's table gives: it holds what the program's text lays in it. -/
import Derived.Test.YtceiehkbhebnpaaDoorCLaid
import Derived.Test.YtceiehkbhebnpaaDoorMArb
import Derived.LaidMore
import Derived.Lib.LaidTab
import Derived.Stop.LaidErr
namespace Go.Proofs.YtceiehkbhebnpaaDoor
open Go.ChangeShapes Go.WideShapes Go.ChangeAt Go.RowKit

/-- What the rows list. -/
def laid1 : List (String × DataW Unit) := [("coffret/chacha.firstWords", Rows.laid_coffret_chacha_firstWords)]

theorem laid_fw : (Rows.laid_coffret_chacha_firstWords : DataW Unit) = Lib.tabData .u32 (Fw.map wz) := by kernel_rfl
theorem g_fw : Tryd.prog.globalNamed "coffret/chacha.firstWords" = some 0 := by kernel_rfl
theorem t_fw : (Tryd.prog.globals[0]?).map (·.type) = some 81 := by kernel_rfl

theorem var_row1 {W : World} {name : String} {g : Nat} {cs : Array Value} (hg : Tryd.prog.globalNamed name = some g) (h : W.var? Tryd.prog name = some cs) : ∃ t fr, W.heap[g]? = some (.cells cs t fr) := by
  unfold World.var? at h
  rw [hg, Option.bind_some] at h
  split at h
  · rename_i cs' t fr hh
    cases h
    exact ⟨t, fr, hh⟩
  · cases h

theorem words_wv1 (l : List W) : (l.map wz).map (fun z => Value.int .u32 z) = l.map wv := by
  rw [List.map_map]; rfl

/-- From the row's condition to what the contracts ask. -/
theorem ctab_of_laid {W : World} (h : laidMetH Tryd.prog laid1 W) : CTab W := by
  rw [MakeChecks.laidMetH_plain _ _ _ (by kernel_rfl)] at h
  unfold laid1 at h
  rw [laid_fw] at h
  have h1 := Lib.tabIs_of_head g_fw t_fw Tryd.underlying81 Tryd.underlying42 (by kernel_rfl) (by kernel_rfl) h
  unfold Lib.TabIs at h1
  rw [words_wv1] at h1
  exact ⟨var_row1 g_fw h1⟩

theorem door_met1 (os : Os) (args : Array Value) : laidMetH Tryd.prog laid1 ((World.doorLaid Tryd.prog 400 os).forCall (fun _ _ => 0) ⟨#[], args, []⟩).memory :=
  laidMetH_of_parts3 (fuel := 8) (laidMet_of_run' 8 (by kernel_rfl) (by kernel_rfl)) (by kernel_rfl) (by kernel_rfl)

end Go.Proofs.YtceiehkbhebnpaaDoor
