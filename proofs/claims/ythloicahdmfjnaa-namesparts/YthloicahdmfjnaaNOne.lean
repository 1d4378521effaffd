/- What the law's own 'one' answers (package coffretlaw09): names that are known. -/
import Derived.Test.YthloicahdmfjnaaNKind
import Derived.Test.YthloicahdmfjnaaMGrd
import Derived.Deep.CutBlock
import Derived.Deep.DeepCutAuto
namespace Go.Proofs.Ythloicahdmfjnaa
open Go.RowKit

def mainL : List UInt8 := [104, 101, 97, 100, 115, 47, 109, 97, 105, 110]
def oneL : List UInt8 := [116, 97, 103, 115, 47, 49, 46, 48]
def dotsL : List UInt8 := [104, 101, 97, 100, 115, 47, 97, 46, 46, 98]
theorem kind_main : kindL mainL = 1 := by decide +kernel
theorem kind_one : kindL oneL = 2 := by decide +kernel
theorem kind_dots : kindL dotsL = 0 := by decide +kernel
theorem path_ab : pathB [97, 47, 98] = true ∧ pathL [97, 47, 98] = [[97], [98]] := by decide +kernel

set_option maxRecDepth 100000 in
set_option maxHeartbeats 1000000 in
theorem none_any (w : World) : Calls Try.prog 13 #[] w fun e w' => e = .returned (.bool true) ∧ w.grownBy w' none := by
  have c1 := path_any w [97, 47, 98] (by decide)
  rw [path_ab.1, path_ab.2] at c1
  have c2 := fun V => kind_any V mainL (by decide)
  have c3 := fun V => kind_any V oneL (by decide)
  have c4 := fun V => kind_any V dotsL (by decide)
  simp only [kind_main] at c2
  simp only [kind_one] at c3
  simp only [kind_dots] at c4
  have HC2 := hide c2
  have HC3 := hide c3
  have HC4 := hide c4
  clear c2 c3 c4
  go_enter Try.func13, Try.ntmps13
  go_wp2_with fail
  refine c1.mono ?_
  rintro e w1 ⟨v1, rfl, hv1, g1⟩
  clear c1
  obtain ⟨ao, c, rfl, hs1⟩ := hv1.open
  clear hv1
  obtain ⟨b, rfl, _⟩ := hs1.at 1 (by decide)
  go_upto_region 2 with fail
  refine region_named fun O hO => ?_
  refine wpList_want (by rw [hO]; kernel_rfl) fun K9 hK9 => ?_
  go_simp
  go_at_call 9
  refine (unhide HC2 _).mono ?_
  rintro e w2 ⟨rfl, g2⟩
  have G2 := tn g1 g2
  refine hK9 _ _ ?_
  clear hK9 K9
  (try simp only [Act.put, List.setIfInBounds_toArray, List.set_cons_zero, List.set_cons_succ])
  refine wpList_val (by rw [hO]; kernel_rfl) (.bool true) (fun K9 hK9 => by go_simp; exact hK9) ?_
  (try simp only [Act.put, List.setIfInBounds_toArray, List.set_cons_zero, List.set_cons_succ])
  refine wpList_val (by rw [hO]; kernel_rfl) (.bool true) (fun K9 hK9 => by go_simp; exact hK9) ?_
  (try simp only [Act.put, List.setIfInBounds_toArray, List.set_cons_zero, List.set_cons_succ])
  refine wpList_want (by rw [hO]; kernel_rfl) fun K9 hK9 => ?_
  go_simp
  go_at_call 9
  refine (unhide HC3 _).mono ?_
  rintro e w3 ⟨rfl, g3⟩
  have G3 := tn G2 g3
  refine hK9 _ _ ?_
  clear hK9 K9
  (try simp only [Act.put, List.setIfInBounds_toArray, List.set_cons_zero, List.set_cons_succ])
  refine wpList_val (by rw [hO]; kernel_rfl) (.bool true) (fun K9 hK9 => by go_simp; exact hK9) ?_
  (try simp only [Act.put, List.setIfInBounds_toArray, List.set_cons_zero, List.set_cons_succ])
  refine wpList_val (by rw [hO]; kernel_rfl) (.bool true) (fun K9 hK9 => by go_simp; exact hK9) ?_
  (try simp only [Act.put, List.setIfInBounds_toArray, List.set_cons_zero, List.set_cons_succ])
  refine wpList_val (by rw [hO]; kernel_rfl) (.bool true) (fun K9 hK9 => by go_simp; exact hK9) ?_
  (try simp only [Act.put, List.setIfInBounds_toArray, List.set_cons_zero, List.set_cons_succ])
  refine wpList_want (by rw [hO]; kernel_rfl) fun K9 hK9 => ?_
  go_simp
  go_at_call 9
  refine (unhide HC4 _).mono ?_
  rintro e w4 ⟨rfl, g4⟩
  have G4 := tn G3 g4
  have hc4 : w4.cell? ⟨b, 1, none⟩ = some (.string (str [98])) := (((hs1.kept g2).kept g3).kept g4).cell _ rfl |>.2.2 1 (by decide)
  refine hK9 _ _ ?_
  clear hK9 K9
  (try simp only [Act.put, List.setIfInBounds_toArray, List.set_cons_zero, List.set_cons_succ])
  refine wpList_val (by rw [hO]; kernel_rfl) (.bool true) (fun K9 hK9 => by go_simp; exact hK9) ?_
  (try simp only [Act.put, List.setIfInBounds_toArray, List.set_cons_zero, List.set_cons_succ])
  refine wpList_val (by rw [hO]; kernel_rfl) (.bool true) (fun K9 hK9 => by go_simp; exact hK9) ?_
  (try simp only [Act.put, List.setIfInBounds_toArray, List.set_cons_zero, List.set_cons_succ])
  refine wpList_val (by rw [hO]; kernel_rfl) (.bool true) (fun K9 hK9 => by go_simp; exact hK9) ?_
  (try simp only [Act.put, List.setIfInBounds_toArray, List.set_cons_zero, List.set_cons_succ])
  refine wpList_val (by rw [hO]; kernel_rfl) (.bool true) (fun K9 hK9 => by go_simp; exact hK9) ?_
  (try simp only [Act.put, List.setIfInBounds_toArray, List.set_cons_zero, List.set_cons_succ])
  refine wpList_val (by rw [hO]; kernel_rfl) (.bool true) (fun K9 hK9 => by go_simp; exact hK9) ?_
  (try simp only [Act.put, List.setIfInBounds_toArray, List.set_cons_zero, List.set_cons_succ])
  refine wpList_val (by rw [hO]; kernel_rfl) (.bool true) (fun K9 hK9 => by go_simp; exact hK9) ?_
  (try simp only [Act.put, List.setIfInBounds_toArray, List.set_cons_zero, List.set_cons_succ])
  refine wpList_val (by rw [hO]; kernel_rfl) (.slice (some ⟨b, 0, none⟩) 2 c) (fun K9 hK9 => by go_simp; exact hK9) ?_
  (try simp only [Act.put, List.setIfInBounds_toArray, List.set_cons_zero, List.set_cons_succ])
  refine wpList_val (by rw [hO]; kernel_rfl) (.int .i64 2) (fun K9 hK9 => by go_simp; exact hK9) ?_
  (try simp only [Act.put, List.setIfInBounds_toArray, List.set_cons_zero, List.set_cons_succ])
  refine wpList_val (by rw [hO]; kernel_rfl) (.bool true) (fun K9 hK9 => by go_simp; exact hK9) ?_
  (try simp only [Act.put, List.setIfInBounds_toArray, List.set_cons_zero, List.set_cons_succ])
  refine wpList_val (by rw [hO]; kernel_rfl) (.bool true) (fun K9 hK9 => by go_simp; exact hK9) ?_
  (try simp only [Act.put, List.setIfInBounds_toArray, List.set_cons_zero, List.set_cons_succ])
  refine wpList_val (by rw [hO]; kernel_rfl) (.bool true) (fun K9 hK9 => by go_simp; exact hK9) ?_
  (try simp only [Act.put, List.setIfInBounds_toArray, List.set_cons_zero, List.set_cons_succ])
  refine wpList_val (by rw [hO]; kernel_rfl) (.slice (some ⟨b, 0, none⟩) 2 c) (fun K9 hK9 => by go_simp; exact hK9) ?_
  (try simp only [Act.put, List.setIfInBounds_toArray, List.set_cons_zero, List.set_cons_succ])
  refine wpList_val (by rw [hO]; kernel_rfl) (.pointer (some ⟨b, 1, none⟩)) (fun K9 hK9 => by go_simp; exact hK9) ?_
  (try simp only [Act.put, List.setIfInBounds_toArray, List.set_cons_zero, List.set_cons_succ])
  refine wpList_val (by rw [hO]; kernel_rfl) (.string (str [98])) (fun K9 hK9 => by go_simp; exact hK9) ?_
  (try simp only [Act.put, List.setIfInBounds_toArray, List.set_cons_zero, List.set_cons_succ])
  refine wpList_val (by rw [hO]; kernel_rfl) (.bool true) (fun K9 hK9 => by (have q9 := str_list [98]; go_simp); exact hK9) ?_
  (try simp only [Act.put, List.setIfInBounds_toArray, List.set_cons_zero, List.set_cons_succ])
  refine wpList_val (by rw [hO]; kernel_rfl) (.bool true) (fun K9 hK9 => by go_simp; exact hK9) ?_
  (try simp only [Act.put, List.setIfInBounds_toArray, List.set_cons_zero, List.set_cons_succ])
  go_wp2
  go_ret
  exact ⟨rfl, G4⟩

end Go.Proofs.Ythloicahdmfjnaa
