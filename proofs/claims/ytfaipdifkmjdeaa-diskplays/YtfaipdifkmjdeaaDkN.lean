/- What disk's calls answer where no disk was made: of nil, and of a plain Disk{}. -/
import Derived.Test.YtfaipdifkmjdeaaDkB
namespace Go.Proofs.Ytfaipdifkmjdeaa
open Go.RowKit

/-- Where no disk was made: nil, or a plain one. -/
def NoDk (w : World) (po : Option Addr) : Prop := ∀ V, w.grownBy V none → Calls Try.prog 34 #[.pointer po] V fun e w' => e = .returned (.bool false) ∧ w' = V
theorem noDk_nil (w : World) : NoDk w none := fun V _ => dmade_nil V
theorem noDk_plain {w : World} {d : Nat} {ov mv lv bv' : Value} (h : Blk w d 61 [.slice none 0 0, ov, mv, lv, bv']) : NoDk w (some ⟨d, 0, none⟩) := fun V g => dmade_plain V d (by rw [(h.kept g (by simp)).cell]; rfl)
theorem NoDk.nn {w a : World} {po : Option Addr} (h : NoDk w po) (g : w.grownBy a Option.none) : NoDk a po := fun V gV => h V (tn g gV)

section
variable (w : World) (po : Option Addr) (h : NoDk w po)
include h
set_option maxRecDepth 100000
theorem nstopped_any : Calls Try.prog 28 #[.pointer po] w fun e w' => e = .returned (.int .i64 1) ∧ w' = w := by
  have c1 := h w (gb_refl _ _)
  clear h
  go_enter Try.func28, Try.ntmps28
  go_wp2_with (go_at_call 34; refine c1.mono ?_; rintro e w2 ⟨rfl, e2⟩; subst w2; clear c1)
  go_ret
  exact ⟨rfl, rfl⟩
theorem narm_any (v : Value) : Calls Try.prog 14 #[.pointer po, v] w fun e w' => e = .returned (.tuple #[]) ∧ w' = w := by
  have c1 := h w (gb_refl _ _)
  clear h
  go_enter Try.func14, Try.ntmps14
  go_wp2_with (go_at_call 34; refine c1.mono ?_; rintro e w2 ⟨rfl, e2⟩; subst w2; clear c1)
  go_end0
  exact ⟨rfl, rfl⟩
theorem nfall_any : Calls Try.prog 15 #[.pointer po, .slice none 0 0] w fun e w' => e = .returned (.tuple #[]) ∧ w.grownBy w' none := by
  have c1 := h (w.alloc (.cells #[.slice none 0 0] 43)) (World.grownBy_alloc _ _ _)
  have g1 := World.grownBy_alloc w (.cells #[.slice none 0 0] 43) none
  clear h
  go_enter Try.func15, Try.ntmps15
  go_wp2_with (go_at_call 34; refine c1.mono ?_; rintro e w2 ⟨rfl, e2⟩; subst w2; clear c1)
  refine bodyPost_ret (results_none rfl _ _ _) rfl ?_
  exact ⟨rfl, g1⟩
theorem nread_any (v : Value) : Calls Try.prog 18 #[.pointer po, v] w fun e w' => e = .returned (.tuple #[.slice none 0 0, .int .i64 1]) ∧ w' = w := by
  have c1 := nstopped_any w po h
  clear h
  go_enter Try.func18, Try.ntmps18
  go_wp2_with (go_at_call 28; refine c1.mono ?_; rintro e w2 ⟨rfl, e2⟩; subst w2; clear c1)
  go_ret2
  exact ⟨rfl, rfl⟩
theorem nsafe_any (v : Value) : Calls Try.prog 23 #[.pointer po, v] w fun e w' => e = .returned (.tuple #[.slice none 0 0, .int .i64 1]) ∧ w' = w := by
  have c1 := h w (gb_refl _ _)
  clear h
  go_enter Try.func23, Try.ntmps23
  go_wp2_with (go_at_call 34; refine c1.mono ?_; rintro e w2 ⟨rfl, e2⟩; subst w2; clear c1)
  go_ret2
  exact ⟨rfl, rfl⟩
theorem nwrite_any (v x : Value) : Calls Try.prog 11 #[.pointer po, v, x] w fun e w' => e = .returned (.int .i64 1) ∧ w' = w := by
  have c1 := nstopped_any w po h
  clear h
  go_enter Try.func11, Try.ntmps11
  go_wp2_with (go_at_call 28; refine c1.mono ?_; rintro e w2 ⟨rfl, e2⟩; subst w2; clear c1)
  go_ret
  exact ⟨rfl, rfl⟩
theorem nsync_any : Calls Try.prog 13 #[.pointer po] w fun e w' => e = .returned (.int .i64 1) ∧ w' = w := by
  have c1 := nstopped_any w po h
  clear h
  go_enter Try.func13, Try.ntmps13
  go_wp2_with (go_at_call 28; refine c1.mono ?_; rintro e w2 ⟨rfl, e2⟩; subst w2; clear c1)
  go_ret
  exact ⟨rfl, rfl⟩
theorem ndown_any : Calls Try.prog 21 #[.pointer po] w fun e w' => e = .returned (.bool false) ∧ w' = w := by
  have c1 := h w (gb_refl _ _)
  clear h
  go_enter Try.func21, Try.ntmps21
  go_wp2_with (go_at_call 34; refine c1.mono ?_; rintro e w2 ⟨rfl, e2⟩; subst w2; clear c1)
  go_ret
  exact ⟨rfl, rfl⟩
theorem nsect_any : Calls Try.prog 22 #[.pointer po] w fun e w' => e = .returned (.int .i64 0) ∧ w' = w := by
  have c1 := h w (gb_refl _ _)
  clear h
  go_enter Try.func22, Try.ntmps22
  go_wp2_with (go_at_call 34; refine c1.mono ?_; rintro e w2 ⟨rfl, e2⟩; subst w2; clear c1)
  go_ret
  exact ⟨rfl, rfl⟩
theorem nunder_any : Calls Try.prog 20 #[.pointer po] w fun e w' => e = .returned (.slice none 0 0) ∧ w' = w := by
  have c1 := h w (gb_refl _ _)
  clear h
  go_enter Try.func20, Try.ntmps20
  go_wp2_with (go_at_call 34; refine c1.mono ?_; rintro e w2 ⟨rfl, e2⟩; subst w2; clear c1)
  go_ret
  exact ⟨rfl, rfl⟩
theorem nclone_any : Calls Try.prog 25 #[.pointer po] w fun e w' => e = .returned (.pointer none) ∧ w' = w := by
  have c1 := h w (gb_refl _ _)
  clear h
  go_enter Try.func25, Try.ntmps25
  go_wp2_with (go_at_call 34; refine c1.mono ?_; rintro e w2 ⟨rfl, e2⟩; subst w2; clear c1)
  go_ret
  exact ⟨rfl, rfl⟩
end

end Go.Proofs.Ytfaipdifkmjdeaa
