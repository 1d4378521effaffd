/- Which letters may stand in a reference's name: what names.referenceLetter and the document's letter (package coffretref09) answer. No condition but those that each lemma names. -/
import Derived.Test.YtcemdlcimhoeeaaNMath
namespace Go.Proofs.Ytcemdlcimhoeeaa
open Go.RowKit

theorem letter_yes {x : Int} (h : (97 ≤ x ∧ x ≤ 122) ∨ (65 ≤ x ∧ x ≤ 90) ∨ (48 ≤ x ∧ x ≤ 57) ∨ x = 45 ∨ x = 95 ∨ x = 46) : letterI x = true := by
  unfold letterI
  simp only [Bool.or_eq_true, decide_eq_true_eq, beq_iff_eq]
  omega
theorem letter_no {x : Int} (h : ¬ ((97 ≤ x ∧ x ≤ 122) ∨ (65 ≤ x ∧ x ≤ 90) ∨ (48 ≤ x ∧ x ≤ 57) ∨ x = 45 ∨ x = 95 ∨ x = 46)) : letterI x = false := by
  rw [← Bool.not_eq_true]
  unfold letterI
  simp only [Bool.or_eq_true, decide_eq_true_eq, beq_iff_eq]
  omega

set_option maxHeartbeats 1000000 in
theorem letter_any (w : World) (x : Int) : Calls Try.prog 85 #[.int .i32 x] w fun e w' => e = .returned (.bool (letterI x)) ∧ w' = w := by
  by_cases h1 : 97 ≤ x ∧ x ≤ 122
  · obtain ⟨h1, h2⟩ := h1
    have hy := hide (letter_yes (x := x) (by omega))
    go_enter Try.func85, Try.ntmps85
    go_wp2
    go_ret
    exact ⟨by rw [unhide hy]; rfl, rfl⟩
  · by_cases h2 : 65 ≤ x ∧ x ≤ 90
    · have h97 : ¬ 97 ≤ x := by omega
      clear h1
      obtain ⟨h1, h2⟩ := h2
      have hy := hide (letter_yes (x := x) (by omega))
      go_enter Try.func85, Try.ntmps85
      go_wp2
      go_ret
      exact ⟨by rw [unhide hy]; rfl, rfl⟩
    · by_cases h3 : 48 ≤ x ∧ x ≤ 57
      · have h97 : ¬ 97 ≤ x := by omega
        have h65 : ¬ 65 ≤ x := by omega
        clear h1 h2
        obtain ⟨h1, h2⟩ := h3
        have hy := hide (letter_yes (x := x) (by omega))
        go_enter Try.func85, Try.ntmps85
        go_wp2
        go_ret
        exact ⟨by rw [unhide hy]; rfl, rfl⟩
      · have key : letterI x = (x == 45 || x == 95 || x == 46) := by
          unfold letterI
          simp [h1, h2, h3]
        have HK := hide key
        have q1 : ∃ b, b = decide (97 ≤ x) := ⟨_, rfl⟩
        clear key
        by_cases a1 : 97 ≤ x
        · have a2 : ¬ x ≤ 122 := by omega
          have a3 : 65 ≤ x := by omega
          have a4 : ¬ x ≤ 90 := by omega
          have a5 : 48 ≤ x := by omega
          have a6 : ¬ x ≤ 57 := by omega
          have b1 : (x == 45) = false := by simp; omega
          have b2 : (x == 95) = false := by simp; omega
          have b3 : (x == 46) = false := by simp; omega
          clear h1 h2 h3
          go_enter Try.func85, Try.ntmps85
          go_wp2
          go_ret
          exact ⟨by rw [unhide HK, b1, b2, b3]; rfl, rfl⟩
        · by_cases a3 : 65 ≤ x
          · have a4 : ¬ x ≤ 90 := by omega
            have a5 : 48 ≤ x := by omega
            have a6 : ¬ x ≤ 57 := by omega
            have b1 : (x == 45) = false := by simp; omega
            have b3 : (x == 46) = false := by simp; omega
            clear h1 h2 h3
            cases b2 : (x == 95)
            all_goals
              go_enter Try.func85, Try.ntmps85
              go_wp2
              go_ret
              exact ⟨by rw [unhide HK, b1, b2, b3]; rfl, rfl⟩
          · by_cases a5 : 48 ≤ x
            · have a6 : ¬ x ≤ 57 := by omega
              have b1 : (x == 45) = false := by simp; omega
              have b2 : (x == 95) = false := by simp; omega
              have b3 : (x == 46) = false := by simp; omega
              clear h1 h2 h3
              go_enter Try.func85, Try.ntmps85
              go_wp2
              go_ret
              exact ⟨by rw [unhide HK, b1, b2, b3]; rfl, rfl⟩
            · have b2 : (x == 95) = false := by simp; omega
              clear h1 h2 h3
              cases b1 : (x == 45)
              · cases b3 : (x == 46)
                all_goals
                  go_enter Try.func85, Try.ntmps85
                  go_wp2
                  go_ret
                  exact ⟨by rw [unhide HK, b1, b2, b3]; rfl, rfl⟩
              · go_enter Try.func85, Try.ntmps85
                go_wp2
                go_ret
                exact ⟨by rw [unhide HK, b1, b2]; rfl, rfl⟩

end Go.Proofs.Ytcemdlcimhoeeaa
