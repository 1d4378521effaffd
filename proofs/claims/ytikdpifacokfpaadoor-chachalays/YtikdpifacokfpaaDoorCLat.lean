/- A drawn region by states: whatever order is picked, if every state that may be come to leads to states of the same kind, or to an end. No condition but those that the lemma names. -/
import Derived.Test.YtikdpifacokfpaaDoorCMath
import Derived.Deep.RegionHeld3
namespace Go.Proofs.YtikdpifacokfpaaDoor

theorem wpAnyH_states {P : Program} {ops : Array Oper} {Q : Exit → Act → World → Prop} {md : Region.Mode} {S : World → Prop} (I : Nat → Array Bool → Act → World → Prop)
    (step : ∀ fuel listed a w, I fuel listed a w → wpAnyH P md ops Q S fuel listed a w ∨ ∃ f, fuel = f + 1 ∧ Region.ready md ops listed ≠ [] ∧ ∀ i ∈ Region.ready md ops listed, wpOp P ops Q i (fun a' w' => S w' ∧ I f (listed.setIfInBounds i true) a' w') a w) :
    ∀ fuel listed a w, I fuel listed a w → wpAnyH P md ops Q S fuel listed a w := by
  intro fuel
  induction fuel with
  | zero =>
    intro listed a w hI
    rcases step 0 listed a w hI with h | ⟨f, hf, _⟩
    · exact h
    · exact absurd hf (by omega)
  | succ n ih =>
    intro listed a w hI
    rcases step (n + 1) listed a w hI with h | ⟨f, hf, hne, hall⟩
    · exact h
    · obtain rfl : n = f := by omega
      exact ⟨fun h0 => absurd h0 hne, fun i hi => wpOp_mono (fun a' w' h' => ⟨h'.1, ih _ _ _ h'.2⟩) (hall i hi)⟩

/-- Each of the operations 'rs' comes up next; behind it S holds, and the state is one of I's. -/
def AllStates (P : Program) (ops : Array Oper) (Q : Exit → Act → World → Prop) (S : World → Prop) (J : Array Bool → Act → World → Prop) (listed : Array Bool) (a : Act) (w : World) (rs : List Nat) : Prop :=
  ∀ i ∈ rs, wpOp P ops Q i (fun a' w' => S w' ∧ J (listed.setIfInBounds i true) a' w') a w

theorem AllStates.nil {P : Program} {ops : Array Oper} {Q : Exit → Act → World → Prop} {S : World → Prop} {J : Array Bool → Act → World → Prop} {listed : Array Bool} {a : Act} {w : World} : AllStates P ops Q S J listed a w [] := fun _ h => by cases h

theorem AllStates.cons {P : Program} {ops : Array Oper} {Q : Exit → Act → World → Prop} {S : World → Prop} {J : Array Bool → Act → World → Prop} {listed : Array Bool} {a : Act} {w : World} {i : Nat} {o : Oper} {rs : List Nat} (ho : ops[i]? = some o)
    (h : ∀ K' : Act → World → Prop, Shut (∀ a w, S w → J (listed.setIfInBounds i true) a w → K' a w) → if Region.wanted o (yielded ops a.tmps) = true then Oper.wp P o a w K' Q else K' (a.put o.dst undef) w)
    (hs : AllStates P ops Q S J listed a w rs) : AllStates P ops Q S J listed a w (i :: rs) := fun j hj => by
  rcases List.mem_cons.1 hj with rfl | hj
  · exact wpOp_step ho (fun K' hK => h K' (fun a w hS hW => hK a w ⟨hS, hW⟩))
  · exact hs j hj

theorem states_ready {P : Program} {ops : Array Oper} {Q : Exit → Act → World → Prop} {md : Region.Mode} {S : World → Prop} {I : Nat → Array Bool → Act → World → Prop} {f : Nat} {listed : Array Bool} {a : Act} {w : World} (rs : List Nat) (hr : Region.ready md ops listed = rs) (hne : rs ≠ [])
    (h : AllStates P ops Q S (I f) listed a w rs) : wpAnyH P md ops Q S (f + 1) listed a w ∨ ∃ f', f + 1 = f' + 1 ∧ Region.ready md ops listed ≠ [] ∧ ∀ i ∈ Region.ready md ops listed, wpOp P ops Q i (fun a' w' => S w' ∧ I f' (listed.setIfInBounds i true) a' w') a w :=
  Or.inr ⟨f, rfl, hr ▸ hne, hr ▸ h⟩

end Go.Proofs.YtikdpifacokfpaaDoor
