/- What the library's strings.HasPrefix, HasSuffix and Clone answer: by the shelf's contracts, imported. No condition but those that each lemma names. -/
import Derived.Test.YthloicahdmfjnaaMStr
import Derived.Shelf.Strings.Prefix
import Derived.Shelf.Pu.Clone
namespace Go.Proofs.Ythloicahdmfjnaa
open Go.RowKit Go.Shelf

/-- This program's numbers, in the places of the shelf's. -/
def preR : Ren :=
  ⟨fun n => if n = 99 then 20 else if n = 206 then 24 else if n = 100 then 26 else if n = 207 then 28 else n,
   fun n => if n = 3 then 3 else if n = 4 then 4 else if n = 9 then 9 else n,
   fun n => n⟩
def cloR : Ren :=
  ⟨fun n => if n = 25 then 22 else n,
   fun n => if n = 37 then 33 else if n = 47 then 34 else if n = 5 then 5 else if n = 3 then 3 else if n = 4 then 4 else if n = 9 then 9 else n,
   fun n => n⟩

theorem pre99 : Lays.n99 Try.prog preR := by constructor <;> (intros; kernel_rfl)
theorem pre100 : Lays.n100 Try.prog preR := by constructor <;> (intros; kernel_rfl)
theorem clo25 : LaysPu.n25 Try.prog cloR := by constructor <;> (intros; kernel_rfl)

theorem prefix_any (w : World) (s p : List UInt8) : Calls Try.prog 20 #[.string (str s), .string (str p)] w fun e w' => e = .returned (.bool (Lib.hasPrefix s p)) ∧ w' = w :=
  Any.strings_HasPrefix pre99 (str s) (str p) w
theorem suffix_any (w : World) (s p : List UInt8) (hs : s.length ≤ 100000) : Calls Try.prog 26 #[.string (str s), .string (str p)] w fun e w' => e = .returned (.bool (Lib.hasSuffix s p)) ∧ w' = w :=
  Any.strings_HasSuffix pre100 (str s) (str p) w (by rw [str_size]; omega)
theorem lclone_any (w : World) (s : List UInt8) (hs : s.length ≤ 100000) : Calls Try.prog 22 #[.string (str s)] w fun e w' => e = .returned (.string (str s)) ∧ w.grownBy w' none :=
  (AnyPu.stringslite_Clone clo25 (str s) w (by rw [str_size]; omega)).mono fun _ _ h => ⟨h.1, below_gb h.2⟩
theorem sclone_any (w : World) (s : List UInt8) (hs : s.length ≤ 100000) : Calls Try.prog 17 #[.string (str s)] w fun e w' => e = .returned (.string (str s)) ∧ w.grownBy w' none := by
  have hc := lclone_any w s hs
  go_enter Try.func17, Try.ntmps17
  go_wp2_with fail
  refine hc.mono ?_
  rintro e w2 ⟨rfl, g2⟩
  clear hc
  go_wp2
  go_ret
  exact ⟨rfl, g2⟩

end Go.Proofs.Ythloicahdmfjnaa
