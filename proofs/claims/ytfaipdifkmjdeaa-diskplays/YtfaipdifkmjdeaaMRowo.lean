/- What an argument that came in holds: a slice whose elements are rows of cells. -/
import Derived.Test.YtfaipdifkmjdeaaMOpn
import Derived.Test.YtfaipdifkmjdeaaMBlk
import Derived.SizedLaws
namespace Go.Proofs.Ytfaipdifkmjdeaa
open Go.ChangeShapes Go.WideShapes Go.ChangeAt Go.RowKit Go.Deep

theorem weightsAll_in {H : Type} {P : Program} {e : TypeId} : ∀ {l : List (DataW H)} {d : DataW H}, d ∈ l → ∀ n ∈ d.weights P e, n ∈ DataW.weightsAll P e l
  | d' :: r, d, hd, n, hn => by
    simp only [DataW.weightsAll, List.mem_append]
    rcases List.mem_cons.1 hd with rfl | h
    · exact Or.inl hn
    · exact Or.inr (weightsAll_in h n hn)

/-- A slice whose elements are rows of K cells. -/
theorem rows_open {H : Type} {enc : TypeId × Value → H} {W : World} {α : Type} [Inhabited α] {t e : TypeId} {K fuel : Nat} {v : Value} {x : DataW H × List MemPlace} (f : α → List Value) (Pd : α → DataW H → Prop)
    (ht : Try.prog.underlying t = some (.slice e)) (hK : Try.prog.cellsOf e = K) (hK0 : 0 < K)
    (hel : ∀ (n : Nat) (cs : List Value) (y : DataW H × List MemPlace), DataW.trod enc Try.prog W 0 (fun _ => true) true n e cs = some y → ∃ r : α, cs = f r ∧ Pd r y.1)
    (h : DataW.trod enc Try.prog W 0 (fun _ => true) true fuel t [v] = some x) :
    ∃ (L : List α) (ao : Option Addr) (c : Nat), v = .slice ao L.length c ∧ (ao = none → L.length = 0 ∧ c = 0) ∧ L.length ≤ c ∧ c ≤ maxLen ∧ (∀ ad, ao = some ad → 0 < L.length → ad.spot = none) ∧
      (∀ ad, ao = some ad → ∀ i (h : i < L.length), W.rangeAt ad.block (ad.off + i * K) (f L[i])) ∧ ∀ r ∈ L, ∃ d', Pd r d' ∧ ∀ m ∈ d'.weights Try.prog e, m ∈ x.1.weights Try.prog t := by
  rcases open_slice ht h with ⟨hcs, _⟩ | ⟨a, len, cap, m, n, D, Pl, hcs, _, hl, hm, hmm, hx0, hx⟩
  · simp only [List.cons.injEq, and_true] at hcs
    subst hcs
    exact ⟨[], none, 0, rfl, fun _ => ⟨rfl, rfl⟩, Nat.le_refl _, Nat.zero_le _, (fun _ e => by cases e), (fun _ e => by cases e), (fun _ e => by cases e)⟩
  · simp only [List.cons.injEq, and_true] at hcs
    subst hcs
    have hmc : m = cap := by rw [hmm]; rfl
    have each : ∀ i, i < len → ∃ r : α, (∀ j u, (f r)[j]? = some u → W.cell? (a.add (i * K + j)) = some u) ∧ (f r).length = K ∧ Pd r (D i) := by
      intro i hi
      obtain ⟨cs', h1, h2⟩ := hx i (by omega)
      rw [hK] at h1
      obtain ⟨_, hlen, hcell⟩ := World.cells?_some h1
      obtain ⟨r, rfl, hp⟩ := hel _ _ _ h2
      refine ⟨r, fun j u hu => ?_, hlen, hp⟩
      obtain ⟨hj, hu2⟩ := List.getElem?_eq_some_iff.1 hu
      have e0 := hcell j (by omega)
      rw [add_add] at e0
      rw [e0, ← hu2]
      simp [hj]
    obtain ⟨q, hq⟩ := choose_lt each
    have hsp : 0 < len → a.spot = none := fun h0 => by
      obtain ⟨h1, h2, _⟩ := hq 0 h0
      have h3 : 0 < (f (q 0)).length := by omega
      have := World.cell?_spot (h1 0 _ (List.getElem?_eq_getElem h3))
      simpa [Addr.add] using this
    obtain ⟨b, o, sp⟩ := a
    refine ⟨(List.range len).map q, some ⟨b, o, sp⟩, cap, by simp, (fun e => by cases e), by simpa using hl, hm, (fun ad e hp => by cases e; exact hsp (by simpa using hp)), ?_, ?_⟩
    · intro ad e i hi
      cases e
      have hi' : i < len := by simpa using hi
      have hs := hsp (by omega)
      simp only at hs
      subst hs
      intro j u hu
      have := (hq i hi').1 j u (by simpa using hu)
      rw [Addr.add_lit] at this
      rw [Nat.add_assoc]
      exact this
    · intro r hr
      obtain ⟨i, hi, rfl⟩ := List.mem_map.1 hr
      have hi' : i < len := List.mem_range.1 hi
      refine ⟨D i, (hq i hi').2.2, fun m hm => ?_⟩
      rw [hx0]
      simp only [DataW.weights, ht, List.mem_cons, List.mem_append]
      exact Or.inr (Or.inl (weightsAll_in (List.mem_map.2 ⟨i, hi, rfl⟩) _ hm))

end Go.Proofs.Ytfaipdifkmjdeaa
