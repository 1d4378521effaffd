/- What layer 6's functions are to answer (AeadC: proved apart, for the landed code), what the law package's short answers, and its one: it answers true, and nothing that was in memory has changed. -/
import Derived.Test.YtceiehkbhebnpaaDoorAMath
import Derived.Test.YtceiehkbhebnpaaDoorCStream
import Derived.Test.YtceiehkbhebnpaaDoorMStr
import Derived.Test.YtceiehkbhebnpaaDoorMLst
import Derived.Test.YtceiehkbhebnpaaDoorPSlice
namespace Go.Proofs.YtceiehkbhebnpaaDoor
open Go.RowKit

/-- What Seal, Open and Tag answer. -/
structure AeadC : Prop where
  sealed : ∀ (w : World) (k n be t : List UInt8) (bo xo : Option Addr) (cb cx : Nat), k.length = 32 → n.length = 12 → Bts w bo cb be → Bts w xo cx t → be.length ≤ 2000 → t.length ≤ 2000 → CTab w →
    Calls Tryd.prog 7 #[.agg (k.map bv).toArray, .agg (n.map bv).toArray, .slice bo be.length cb, .slice xo t.length cx] w fun e w' => ∃ v, e = .returned v ∧ NewB w w' v (sealL k n be t) ∧ w.grownBy w' none
  opened : ∀ (w : World) (k n be y : List UInt8) (bo xo : Option Addr) (cb cx : Nat), k.length = 32 → n.length = 12 → Bts w bo cb be → Bts w xo cx y → be.length ≤ 2000 → y.length ≤ 2000 → CTab w →
    Calls Tryd.prog 9 #[.agg (k.map bv).toArray, .agg (n.map bv).toArray, .slice bo be.length cb, .slice xo y.length cx] w fun e w' => ∃ v, e = .returned (.tuple #[v, .bool (openB k n be y)]) ∧ NewB w w' v (openL k n be y) ∧ w.grownBy w' none
  tag : ∀ (w : World) (k n be x : List UInt8) (bo xo : Option Addr) (cb cx : Nat), k.length = 32 → n.length = 12 → Bts w bo cb be → Bts w xo cx x → be.length ≤ 2000 → x.length ≤ 2000 → CTab w →
    Calls Tryd.prog 8 #[.agg (k.map bv).toArray, .agg (n.map bv).toArray, .slice bo be.length cb, .slice xo x.length cx] w fun e w' => e = .returned (.agg ((tagA k n be x).map bv).toArray) ∧ w.grownBy w' none

theorem short6_any (w : World) (ao : Option Addr) (c : Nat) (x : List UInt8) (hx : Bts w ao c x) (m : Nat) :
    Calls Tryd.prog 6 #[.slice ao x.length c, .int .i64 (m : Int)] w fun e w' => e = .returned (.slice ao (x.take m).length c) ∧ w' = w := by
  have hf := hx.fits
  by_cases h : m < x.length
  · have h2 : (m : Int) < (x.length : Int) := by omega
    have hto := fun W => slice_to (P := Tryd.prog) W 24 5 Tryd.underlying24 size_byte ao x.length c m (by omega)
    have hl : (x.take m).length = m := by rw [List.length_take]; omega
    rw [hl]
    clear hl hx hf h
    go_enter Tryd.func6, Tryd.ntmps6
    go_wp2
    go_ret
    exact ⟨rfl, rfl⟩
  · have h2 : ¬ (m : Int) < (x.length : Int) := by omega
    rw [List.take_of_length_le (by omega)]
    go_enter Tryd.func6, Tryd.ntmps6
    go_wp2
    go_ret
    exact ⟨rfl, rfl⟩
theorem Bts.short {w : World} {ao : Option Addr} {c : Nat} {l : List UInt8} (h : Bts w ao c l) (m : Nat) : Bts w ao c (l.take m) := by
  by_cases hm : m ≤ l.length
  · exact h.take m hm
  · rw [List.take_of_length_le (by omega)]; exact h

def k6 : List UInt8 := 1 :: List.replicate 31 0
def n6 : List UInt8 := 2 :: List.replicate 11 0
set_option maxRecDepth 100000 in
theorem other_beside : openB k6 n6 [98] (sealL k6 n6 [97] [98, 99]) = false := by kernel_rfl
theorem built_k6 : Tryd.prog.built 23 [(0, .int .u8 1)] = some (k6.map bv).toArray := by kernel_rfl
theorem built_n6 : Tryd.prog.built 27 [(0, .int .u8 2)] = some (n6.map bv).toArray := by kernel_rfl

end Go.Proofs.YtceiehkbhebnpaaDoor
