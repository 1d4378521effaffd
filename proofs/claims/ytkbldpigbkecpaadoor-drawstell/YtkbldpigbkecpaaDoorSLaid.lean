/- What a row that lists sha's two tables gives: they hold what the program's text lays in them. -/
import Derived.Test.YtkbldpigbkecpaaDoorSTaken
import Derived.Test.YtkbldpigbkecpaaDoorMOpen
import Derived.LaidMore
import Derived.Lib.LaidTab
import Derived.Stop.LaidErr
namespace Go.Proofs.YtkbldpigbkecpaaDoor
open Go.ChangeShapes Go.WideShapes Go.ChangeAt Go.RowKit

/-- What the rows list. -/
def laid2 : List (String × DataW Unit) := [("coffret/sha.squareRoots", Rows.laid_coffret_sha_squareRoots), ("coffret/sha.cubeRoots", Rows.laid_coffret_sha_cubeRoots)]

theorem laid_sq : (Rows.laid_coffret_sha_squareRoots : DataW Unit) = Lib.tabData .u32 (Hs.map wz) := by kernel_rfl
theorem laid_cu : (Rows.laid_coffret_sha_cubeRoots : DataW Unit) = Lib.tabData .u32 (Ks.map wz) := by kernel_rfl
theorem g_sq : Tryd.prog.globalNamed "coffret/sha.squareRoots" = some 1 := by kernel_rfl
theorem g_cu : Tryd.prog.globalNamed "coffret/sha.cubeRoots" = some 0 := by kernel_rfl
theorem t_sq : (Tryd.prog.globals[1]?).map (·.type) = some 55 := by kernel_rfl
theorem t_cu : (Tryd.prog.globals[0]?).map (·.type) = some 72 := by kernel_rfl

theorem var_row {W : World} {name : String} {g : Nat} {cs : Array Value} (hg : Tryd.prog.globalNamed name = some g) (h : W.var? Tryd.prog name = some cs) : ∃ t fr, W.heap[g]? = some (.cells cs t fr) := by
  unfold World.var? at h
  rw [hg, Option.bind_some] at h
  split at h
  · rename_i cs' t fr hh
    cases h
    exact ⟨t, fr, hh⟩
  · cases h

theorem words_wv (l : List W) : (l.map wz).map (fun z => Value.int .u32 z) = l.map wv := by
  rw [List.map_map]; rfl

/-- From the row's condition to what the contracts ask. -/
theorem tabs_of_laid {W : World} (h : laidMetH Tryd.prog laid2 W) : Tabs W := by
  rw [MakeChecks.laidMetH_plain _ _ _ (by kernel_rfl)] at h
  unfold laid2 at h
  rw [laid_sq, laid_cu] at h
  have h1 := Lib.tabIs_of_head g_sq t_sq Tryd.underlying55 Tryd.underlying54 (by kernel_rfl) (by kernel_rfl) h
  have h2 := Lib.tabIs_of_head g_cu t_cu Tryd.underlying72 Tryd.underlying54 (by kernel_rfl) (by kernel_rfl) h.tail
  unfold Lib.TabIs at h1 h2
  rw [words_wv] at h1 h2
  exact ⟨var_row g_cu h2, var_row g_sq h1⟩

theorem door_met (os : Os) (args : Array Value) : laidMetH Tryd.prog laid2 ((World.doorLaid Tryd.prog 400 os).forCall (fun _ _ => 0) ⟨#[], args, []⟩).memory :=
  laidMetH_of_parts3 (fuel := 8) (laidMet_of_run' 8 (by kernel_rfl) (by kernel_rfl)) (by kernel_rfl) (by kernel_rfl)

end Go.Proofs.YtkbldpigbkecpaaDoor
