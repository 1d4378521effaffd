/- Texts that are cut and gathered: a list in new memory, and their bytes, one behind the other. No condition but those that each lemma names. -/
import Derived.Test.YtkbldpigbkecpaaDoorMBlk
import Derived.Test.YtkbldpigbkecpaaDoorMLst
namespace Go.Proofs.YtkbldpigbkecpaaDoor
open Go.RowKit

theorem Bts.cut {w : World} {ao : Option Addr} {c : Nat} {l : List UInt8} (h : Bts w ao c l) (n : Nat) : Bts w ao c (l.take n) := by
  by_cases hn : n ≤ l.length
  · exact h.take n hn
  · rw [List.take_of_length_le (by omega)]; exact h
theorem Bts.alloc {w : World} {ao : Option Addr} {c : Nat} {l : List UInt8} (h : Bts w ao c l) (o : Obj) : Bts (w.alloc o) ao c l := h.kept (World.grownBy_alloc w o none) (fun _ e => by cases e)
theorem Bts.drew {w : World} {ao : Option Addr} {c : Nat} {l : List UInt8} (h : Bts w ao c l) : Bts w.drew ao c l := h.kept (gb_drew (gb_refl w none)) (fun _ e => by cases e)

/-- Two rows of other types lie apart. -/
theorem own_ne {w : World} {b1 b2 : Nat} {t1 t2 : TypeId} {v1 v2 : Value} {n1 n2 : Nat} {x1 x2 : List Value} (h1 : w.ownsRow b1 t1 1 v1 n1 x1) (h2 : w.ownsRow b2 t2 1 v2 n2 x2) (ht : t1 ≠ t2) : v1.ownBlock = none ∨ v1.ownBlock ≠ v2.ownBlock := by
  rcases h1.2 with ⟨rfl, _⟩ | ⟨g1, c1, cur1, rfl, _, hh1, _⟩
  · exact Or.inl rfl
  · refine Or.inr fun e => ?_
    rcases h2.2 with ⟨rfl, _⟩ | ⟨g2, c2, cur2, rfl, _, hh2, _⟩
    · cases e
    · have e2 : g1 = g2 := by simpa [Value.ownBlock] using e
      rw [e2, hh2] at hh1
      injection hh1 with h3
      injection h3 with _ h4
      exact ht h4.symm

/-- What a list's cells hold, as functions of the place. -/
theorem lst_fun {w : World} {ao : Option Addr} {c : Nat} {L : List (List UInt8)} (h : Lst w ao c L) : ∃ (fa : Nat → Option Addr) (fc : Nat → Nat), (∀ ad, ao = some ad → ∀ i (hi : i < L.length), w.cell? ⟨ad.block, ad.off + i, none⟩ = some (.slice (fa i) (L[i]).length (fc i))) ∧ ∀ i (hi : i < L.length), Bts w (fa i) (fc i) L[i] := by
  have key : ∀ i, ∃ p : Option Addr × Nat, ∀ hi : i < L.length, (∀ ad, ao = some ad → w.cell? ⟨ad.block, ad.off + i, none⟩ = some (.slice p.1 (L[i]).length p.2)) ∧ Bts w p.1 p.2 L[i] := by
    intro i
    by_cases hi : i < L.length
    · cases ao with
      | none => have := h.zip rfl; omega
      | some ad =>
        obtain ⟨ai, ci, h1, h2⟩ := h.cell ad rfl i hi
        exact ⟨(ai, ci), fun _ => ⟨fun ad' e => by cases e; exact h1, h2⟩⟩
    · exact ⟨(none, 0), fun q => absurd q hi⟩
  obtain ⟨f, hf⟩ := Classical.axiomOfChoice key
  exact ⟨fun i => (f i).1, fun i => (f i).2, fun ad e i hi => (hf i hi).1 ad e, fun i hi => (hf i hi).2⟩

/-- The texts that were gathered. -/
def gatL (n : Nat) (L : List (List UInt8)) (k : Nat) : List (List UInt8) := (L.take k).map (·.take n)
def pvs (n : Nat) (fa : Nat → Option Addr) (fc : Nat → Nat) (L : List (List UInt8)) (k : Nat) : List Value := (List.range k).map fun i => .slice (fa i) ((L.getD i []).take n).length (fc i)
theorem pvs_snoc (n : Nat) (fa : Nat → Option Addr) (fc : Nat → Nat) (L : List (List UInt8)) (k : Nat) (hk : k < L.length) : pvs n fa fc L (k + 1) = pvs n fa fc L k ++ [.slice (fa k) (L[k].take n).length (fc k)] := by
  unfold pvs
  rw [List.range_succ, List.map_append]
  simp [List.getD, hk]
theorem gatL_snoc (n : Nat) (L : List (List UInt8)) (k : Nat) (hk : k < L.length) : (gatL n L (k + 1)).flatten = (gatL n L k).flatten ++ L[k].take n := by
  unfold gatL
  rw [List.take_succ_eq_append_getElem hk, List.map_append, List.flatten_append]
  simp
theorem gatL_length (n : Nat) (L : List (List UInt8)) (k : Nat) (hk : k ≤ L.length) : (gatL n L k).length = k := by simp [gatL]; omega
theorem gatL_flat_le (n : Nat) (L : List (List UInt8)) (k : Nat) : ((gatL n L k).flatten).length ≤ k * n := by
  induction k with
  | zero => simp [gatL]
  | succ k ih =>
    by_cases hk : k < L.length
    · rw [gatL_snoc n L k hk, List.length_append, Nat.succ_mul]
      have : (L[k].take n).length ≤ n := by simp; omega
      omega
    · have e : gatL n L (k + 1) = gatL n L k := by unfold gatL; rw [List.take_of_length_le (by omega), List.take_of_length_le (by omega)]
      rw [e, Nat.succ_mul]; omega

/-- The list that was gathered is one of the texts. -/
theorem lst_cut {w W : World} {fa : Nat → Option Addr} {fc : Nat → Nat} {L : List (List UInt8)} {base n k : Nat} {v : Value} (hk : k ≤ L.length) (g : w.grownBy W none) (hb : ∀ i (hi : i < L.length), Bts w (fa i) (fc i) L[i]) (ho : W.ownsRow base 22 1 v k (pvs n fa fc L k)) :
    ∃ po pc, v = .slice po k pc ∧ Lst W po pc (gatL n L k) := by
  have hl := gatL_length n L k hk
  rcases ho.2 with ⟨rfl, h0⟩ | ⟨gg, cap, cur, rfl, hg, hh, h1, h2, h3, h4⟩
  · subst h0
    exact ⟨none, 0, rfl, ⟨fun _ => ⟨hl, rfl⟩, by omega, Nat.zero_le _, (fun _ e => by cases e), (fun _ e => by cases e)⟩⟩
  · refine ⟨_, cap, rfl, ⟨(fun e => by cases e), by omega, h2, (fun ad e _ => by cases e; rfl), (fun ad e i hi => ?_)⟩⟩
    cases e
    rw [hl] at hi
    have hiL : i < L.length := by omega
    refine ⟨fa i, fc i, ?_, ?_⟩
    · have h7 : (cur.toList.take (k * 1))[i]? = (pvs n fa fc L k)[i]? := by rw [h4]
      rw [List.getElem?_take_of_lt (by omega)] at h7
      have h8 : (pvs n fa fc L k)[i]? = some (.slice (fa i) (L[i].take n).length (fc i)) := by
        unfold pvs
        simp [hi, List.getD, hiL]
      rw [h8] at h7
      have h9 : (gatL n L k)[i]'(by rw [hl]; exact hi) = L[i].take n := by simp [gatL]
      rw [h9]
      simpa [World.cell?, hh] using h7
    · have h9 : (gatL n L k)[i]'(by rw [hl]; exact hi) = L[i].take n := by simp [gatL]
      rw [h9]
      exact ((hb i hiL).kept g (fun _ e => by cases e)).cut n

end Go.Proofs.YtkbldpigbkecpaaDoor
