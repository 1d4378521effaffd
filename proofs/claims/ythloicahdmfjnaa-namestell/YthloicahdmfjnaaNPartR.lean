/- What the document's Part (package coffretref09) answers. Of texts of at most 100000 bytes. -/
import Derived.Test.YthloicahdmfjnaaNPart
namespace Go.Proofs.Ythloicahdmfjnaa
open Go.RowKit

set_option maxRecDepth 100000 in
set_option maxHeartbeats 1000000 in
theorem rpart_any (w : World) (l : List UInt8) (hl : l.length ≤ 100000) : Calls Try.prog 12 #[.string (str l)] w fun e w' => e = .returned (.bool (partB l)) ∧ w.grownBy w' none := by
  obtain ⟨S, hS⟩ : ∃ S, S = str l := ⟨_, rfl⟩
  obtain ⟨n, hn⟩ : ∃ n, n = l.length := ⟨_, rfl⟩
  have hsz : S.size = n := by rw [hS, str_size, hn]
  obtain ⟨b1, hb1⟩ : ∃ b, b = (l == []) := ⟨_, rfl⟩
  obtain ⟨b2, hb2⟩ : ∃ b, b = (l == [46]) := ⟨_, rfl⟩
  obtain ⟨b3, hb3⟩ : ∃ b, b = (l == [46, 46]) := ⟨_, rfl⟩
  obtain ⟨LL, hLL⟩ : ∃ L, L = S.toList := ⟨_, rfl⟩
  have hLl : LL = l := by rw [hLL, hS, str_list]
  have e1 : LL.isEmpty = b1 := by rw [hLl, hb1]; cases l <;> rfl
  have e2 : (LL == [46]) = b2 := by rw [hLl, hb2]
  have e3 : (LL == [46, 46]) = b3 := by rw [hLl, hb3]
  have hP : partB l = (!b1 && decide (n ≤ 64) && !b2 && !b3 && l.all plainB) := by rw [partB_eq, hb1, hb2, hb3, hn]
  have ix : ∀ (p : Nat) (hp : p < l.length) (n : Nat), n = l[p].toNat → ∀ W, (Instr.index 9 (.string S) (.int .i64 (p : Int))).run Try.prog W = .ok (.int .u8 (n : Int)) W := fun p hp n hn W => by rw [hS]; exact idx_str l p n hp hn W
  rw [← hS]
  have hT := hLL.symm
  have HN := hide hn
  have HL := hide hl
  have HP := hide hP
  have IX := hide ix
  clear hS hn hl hb1 hb2 hb3 hLL hLl hP ix
  cases b1
  · have n1 : ¬ LL = [] := by simpa using e1
    cases b2
    · have n2 : ¬ LL = [46] := by simpa using e2
      cases b3
      · have n3 : ¬ LL = [46, 46] := by simpa using e3
        by_cases h64 : n ≤ 64
        · have h64i : ¬ (64 : Int) < (n : Int) := by omega
          have hP2 : partB l = l.all plainB := by rw [unhide HP]; simp [h64]
          have HP2 := hide hP2
          clear HP hP2
          go_enter Try.func12, Try.ntmps12
          go_wp2
          clear n1 n2 n3 e1 e2 e3 hT
          go_loop [3] (fun i => ∃ pos : Nat, pos ≤ n ∧ i = .int .i64 pos ∧ Hid ((l.drop pos).all plainB = l.all plainB)) (fun i => n - (intOf i).toNat)
          case atStart => exact ⟨0, Nat.zero_le _, rfl, by exact rfl⟩
          case round =>
            obtain ⟨pos, hpn, rfl, hD⟩ := hrel
            by_cases hlt : pos < n
            · have hpl : pos < l.length := by rw [← unhide HN]; exact hlt
              obtain ⟨x, hx⟩ : ∃ x, x = l[pos].toNat := ⟨_, rfl⟩
              have ix := unhide IX pos hpl x hx
              have hlti : (pos : Int) < (n : Int) := by omega
              have hf := all_drop (f := plainB) hpl
              rw [plain_nat, ← hx, hD.out] at hf
              clear hx hD
              by_cases h47 : x = 47
              · subst h47
                have HR := hide (show partB l = false by rw [unhide HP2, hf]; rfl)
                clear hf
                go_wp2
                go_ret
                exact ⟨by rw [unhide HR]; rfl, gb_refl _ _⟩
              · have q1 : ((x : Int) == 47) = false := by simp; omega
                by_cases h0 : x = 0
                · subst h0
                  have HR := hide (show partB l = false by rw [unhide HP2, hf]; rfl)
                  clear hf
                  go_wp2
                  go_ret
                  exact ⟨by rw [unhide HR]; rfl, gb_refl _ _⟩
                · have q2 : ((x : Int) == 0) = false := by simp; omega
                  have HF := hide (show (l.drop (pos + 1)).all plainB = l.all plainB by rw [hf, q1, q2]; rfl)
                  clear hf h47 h0
                  go_wp2
                  go_round
                  case rel => exact ⟨pos + 1, by omega, by go_num, HF⟩
                  case measure => simp [intOf]; omega
            · have hlti : ¬ (pos : Int) < (n : Int) := by omega
              have HR := hide (show partB l = true by rw [unhide HP2, ← hD.out, List.drop_eq_nil_of_le (by rw [← unhide HN]; omega)]; rfl)
              clear hD
              go_wp2
              go_ret
              exact ⟨by rw [unhide HR]; rfl, gb_refl _ _⟩
        · have h64i : (64 : Int) < (n : Int) := by omega
          have HR := hide (show partB l = false by rw [unhide HP]; simp [h64])
          clear HP
          go_enter Try.func12, Try.ntmps12
          go_wp2
          go_ret
          exact ⟨by rw [unhide HR]; rfl, gb_refl _ _⟩
      · have n3 : LL = [46, 46] := by simpa using e3
        have HR := hide (show partB l = false by rw [unhide HP]; simp)
        clear HP
        go_enter Try.func12, Try.ntmps12
        go_wp2
        go_ret
        exact ⟨by rw [unhide HR]; rfl, gb_refl _ _⟩
    · have HR := hide (show partB l = false by rw [unhide HP]; simp)
      have n2 : LL = [46] := by simpa using e2
      clear HP
      go_enter Try.func12, Try.ntmps12
      go_wp2
      go_ret
      exact ⟨by rw [unhide HR]; rfl, gb_refl _ _⟩
  · have HR := hide (show partB l = false by rw [unhide HP]; rfl)
    have n1 : LL = [] := by simpa using e1
    clear HP
    go_enter Try.func12, Try.ntmps12
    go_wp2
    go_ret
    exact ⟨by rw [unhide HR]; rfl, gb_refl _ _⟩

end Go.Proofs.Ythloicahdmfjnaa
