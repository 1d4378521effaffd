/- What is true of a reference's name and its parts. No condition but those that each lemma names. -/
import Derived.Test.YthloicahdmfjnaaNKind
import Derived.Test.YthloicahdmfjnaaNGoodR
namespace Go.Proofs.Ythloicahdmfjnaa
open Go.RowKit

theorem scan_letters (l : List UInt8) : ∀ b, scan b l = true → ∀ c ∈ l, letterB c = true := by
  induction l with
  | nil => intro b _ c hc; simp at hc
  | cons d r ih =>
    intro b h c hc
    simp only [scan, Bool.and_eq_true] at h
    rcases List.mem_cons.1 hc with rfl | hc
    · exact h.1.1
    · exact ih _ h.2 c hc
theorem good_part (p : List UInt8) (h : goodL p = true) (hl : p.length ≤ 64) : partB p = true := by
  have h1 : ¬ p = [] := fun e => by subst e; cases h
  have h2 : ¬ p = [46] := fun e => by subst e; revert h; decide
  have h3 : ¬ p = [46, 46] := fun e => by subst e; revert h; decide
  have hs : scan true p = true := by
    unfold goodL at h
    simp only [Bool.and_eq_true] at h
    exact h.2
  have h4 : p.all plainB = true := List.all_eq_true.2 fun c hc => by
    have h5 := scan_letters p true hs c hc
    rw [plain_nat]
    have e1 : ¬ ((c.toNat : Nat) : Int) = 47 := fun e => by
      unfold letterB at h5
      rw [e] at h5
      revert h5; decide
    have e2 : ¬ ((c.toNat : Nat) : Int) = 0 := fun e => by
      unfold letterB at h5
      rw [e] at h5
      revert h5; decide
    simp [e1]
    intro e3
    exact e2 (by rw [e3]; rfl)
  rw [partB_eq, h4]
  simp [h1, h2, h3, hl]

/-- What a name that is one is of. -/
theorem kind_is (s : List UInt8) (h : kindL s ≠ 0) : s.length ≤ 64 ∧ (slashL s).all goodL = true ∧ (Lib.hasPrefix s (headsL ++ [47]) = true ∨ Lib.hasPrefix s (tagsL ++ [47]) = true) := by
  unfold kindL at h
  by_cases h1 : s.length ≤ 64 ∧ (slashL s).all goodL = true
  · rw [if_pos h1] at h
    refine ⟨h1.1, h1.2, ?_⟩
    by_cases h2 : Lib.hasPrefix s (headsL ++ [47]) = true
    · exact Or.inl h2
    · rw [if_neg h2] at h
      by_cases h3 : Lib.hasPrefix s (tagsL ++ [47]) = true
      · exact Or.inr h3
      · rw [if_neg h3] at h
        exact absurd rfl h
  · rw [if_neg h1] at h
    exact absurd rfl h
theorem kind_path (s : List UInt8) (h : kindL s ≠ 0) : pathB s = true ∧ pathL s = slashL s ∧ 1 < (slashL s).length := by
  obtain ⟨h1, h2, h3⟩ := kind_is s h
  have hp : pathB s = true := by
    unfold pathB
    rw [Bool.and_eq_true]
    refine ⟨by simp; omega, List.all_eq_true.2 fun p hp => good_part p (List.all_eq_true.1 h2 p hp) (Nat.le_trans (slashL_len s p hp) h1)⟩
  refine ⟨hp, by unfold pathL; rw [if_pos hp], ?_⟩
  rcases h3 with h3 | h3
  · rw [kind_pre s headsL (by decide), Bool.and_eq_true, decide_eq_true_eq] at h3
    exact h3.1
  · rw [kind_pre s tagsL (by decide), Bool.and_eq_true, decide_eq_true_eq] at h3
    exact h3.1
theorem prefix_no (p a : List UInt8) (hp : ∀ c ∈ p, c ≠ 47) : Lib.hasPrefix p (a ++ [47]) = false := by
  rw [← Bool.not_eq_true]
  unfold Lib.hasPrefix
  rw [List.isPrefixOf_iff_prefix]
  rintro ⟨m, rfl⟩
  exact hp 47 (by simp) rfl
theorem kind_first (s p : List UInt8) (hp : p ∈ slashL s) : kindL p = 0 := by
  have h := slashL_no s p hp
  unfold kindL
  rw [prefix_no p headsL h, prefix_no p tagsL h]
  simp
theorem prefix_len (s a : List UInt8) (h : Lib.hasPrefix s a = true) : a.length ≤ s.length := by
  unfold Lib.hasPrefix at h
  rw [List.isPrefixOf_iff_prefix] at h
  exact h.length_le
theorem prefix_app (s a m : List UInt8) (h : Lib.hasPrefix s a = true) : Lib.hasPrefix (s ++ m) a = true := by
  unfold Lib.hasPrefix at h ⊢
  rw [List.isPrefixOf_iff_prefix] at h ⊢
  obtain ⟨t, rfl⟩ := h
  exact ⟨t ++ m, by simp⟩
theorem prefix_apart (s : List UInt8) (h : Lib.hasPrefix s (headsL ++ [47]) = true) : Lib.hasPrefix s (tagsL ++ [47]) = false := by
  rw [← Bool.not_eq_true]
  intro h2
  unfold Lib.hasPrefix at h h2
  rw [List.isPrefixOf_iff_prefix] at h h2
  obtain ⟨t, ht⟩ := h
  obtain ⟨u, hu⟩ := h2
  rw [← ht] at hu
  simp [headsL, tagsL] at hu
/-- A part more, behind the beginning of branches. -/
theorem kind_heads (m : List UInt8) : (kindL (headsL ++ [47] ++ m) == 1) = (decide (m.length + 6 ≤ 64) && (slashL m).all goodL) := by
  have hp : Lib.hasPrefix (headsL ++ [47] ++ m) (headsL ++ [47]) = true := by
    unfold Lib.hasPrefix
    rw [List.isPrefixOf_iff_prefix]
    exact ⟨m, rfl⟩
  have hs : slashL (headsL ++ [47] ++ m) = headsL :: slashL m := by
    rw [List.append_assoc, List.singleton_append, slashL_app, slashL_plain headsL (by decide)]
    rfl
  have hg : goodL headsL = true := by decide
  have hl : (headsL ++ [47] ++ m).length = m.length + 6 := by simp [headsL]
  unfold kindL
  rw [hp, hs, List.all_cons, hg, hl, Bool.true_and]
  by_cases h1 : m.length + 6 ≤ 64
  · cases h2 : (slashL m).all goodL <;> simp [h1]
  · simp [h1]
/-- A name with a part more. -/
theorem kind_more (s m : List UInt8) (h : kindL s ≠ 0) :
    ((kindL (headsL ++ [47] ++ m) == 1) = true ∧ (s ++ [47] ++ m).length ≤ 64 → kindL (s ++ [47] ++ m) = kindL s) ∧
    (¬ ((kindL (headsL ++ [47] ++ m) == 1) = true ∧ (s ++ [47] ++ m).length ≤ 64) → kindL (s ++ [47] ++ m) = 0) := by
  obtain ⟨h1, h2, h3⟩ := kind_is s h
  have hs : slashL (s ++ [47] ++ m) = slashL s ++ slashL m := by rw [List.append_assoc, List.singleton_append, slashL_app]
  have hsl : 5 ≤ s.length := by
    rcases h3 with h3 | h3
    · have := prefix_len _ _ h3; simp [headsL] at this; omega
    · have := prefix_len _ _ h3; simp [tagsL] at this; omega
  have hl : (s ++ [47] ++ m).length = s.length + 1 + m.length := by simp; omega
  rw [kind_heads]
  constructor
  · rintro ⟨h4, h5⟩
    rw [Bool.and_eq_true] at h4
    have hall : (slashL (s ++ [47] ++ m)).all goodL = true := by rw [hs, List.all_append, h2, h4.2]; rfl
    have e1 : kindL (s ++ [47] ++ m) = if Lib.hasPrefix (s ++ [47] ++ m) (headsL ++ [47]) = true then 1 else if Lib.hasPrefix (s ++ [47] ++ m) (tagsL ++ [47]) = true then 2 else 0 := by
      unfold kindL
      rw [if_pos ⟨h5, hall⟩]
    have e2 : kindL s = if Lib.hasPrefix s (headsL ++ [47]) = true then 1 else if Lib.hasPrefix s (tagsL ++ [47]) = true then 2 else 0 := by
      unfold kindL
      rw [if_pos ⟨h1, h2⟩]
    rw [e1, e2]
    rcases h3 with h3 | h3
    · have := prefix_app s _ ([47] ++ m) h3
      rw [← List.append_assoc] at this
      rw [if_pos this, if_pos h3]
    · have h6 := prefix_app s _ ([47] ++ m) h3
      rw [← List.append_assoc] at h6
      have h7 : ¬ Lib.hasPrefix s (headsL ++ [47]) = true := fun e => by rw [prefix_apart s e] at h3; cases h3
      have h8 : ¬ Lib.hasPrefix (s ++ [47] ++ m) (headsL ++ [47]) = true := fun e => by rw [prefix_apart _ e] at h6; cases h6
      rw [if_neg h8, if_neg h7, if_pos h6, if_pos h3]
  · intro h4
    unfold kindL
    by_cases h5 : (s ++ [47] ++ m).length ≤ 64
    · rw [if_neg]
      rintro ⟨_, h6⟩
      apply h4
      rw [hs, List.all_append, Bool.and_eq_true] at h6
      refine ⟨?_, h5⟩
      rw [h6.2, Bool.and_true, decide_eq_true_eq]
      omega
    · rw [if_neg (fun e => h5 e.1)]

end Go.Proofs.Ythloicahdmfjnaa
