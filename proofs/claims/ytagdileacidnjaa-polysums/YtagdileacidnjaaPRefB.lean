/- What the document's answer for layer 5 reckons with digits: prime, below, less (package coffretref05). Of numbers of at most 400 digits. -/
import Derived.Test.YtagdileacidnjaaPRefA
namespace Go.Proofs.Ytagdileacidnjaa
open Go.RowKit

theorem own_one (w : World) (d : Nat) : (w.alloc (.cells #[.int .i64 (d : Int)] 3)).ownsRow w.heap.size 3 1 (.slice (some ⟨w.heap.size, 0, none⟩) 1 1) 1 [iv d] := by
  refine ⟨rfl, Or.inr ⟨w.heap.size, 1, #[.int .i64 (d : Int)], rfl, Nat.le_refl _, heap_alloc_new w _, Nat.le_refl _, by unfold maxLen; omega, ?_, ?_⟩⟩
  · rfl
  · rfl

set_option maxRecDepth 100000 in
set_option maxHeartbeats 1000000 in
theorem prime_any (w : World) :
    Calls Try.prog 26 #[] w fun e w' => ∃ v, e = .returned v ∧ NumV w w' v pN 17 ∧ w.grownBy w' none := by
  obtain ⟨i0, hi, hz0, hz1, hz2⟩ := info_parts info_int
  have h1 : (w.alloc (.cells #[.int .i64 251] 3)).ownsRow w.heap.size 3 1 (.slice (some ⟨w.heap.size, 0, none⟩) 1 1) 1 (((251 :: List.replicate 15 255).take 1).map iv) := own_one w 251
  obtain ⟨D, hD⟩ : ∃ D, D = 251 :: List.replicate 15 255 := ⟨_, rfl⟩
  rw [← hD] at h1
  have hDl : D.length = 16 := by rw [hD]; rfl
  have hDg : ∀ k, 1 ≤ k → (h : k < D.length) → D[k] = 255 := by
    intro k hk h
    subst hD
    obtain ⟨j, rfl⟩ : ∃ j, k = j + 1 := ⟨k - 1, by omega⟩
    rw [List.getElem_cons_succ, List.getElem_replicate]
  have hDv : valN (D ++ [3]) = pN := by rw [hD]; decide
  have hDd : ∀ d ∈ D ++ [3], d < 256 := by rw [hD]; decide
  have H1 := hide h1
  have HDL := hide hDl
  have HDG := hide hDg
  have HDV := hide hDv
  have HDD := hide hDd
  clear hD hDl hDg hDv hDd h1
  go_enter Try.func26, Try.ntmps26
  go_wp2
  go_loopw [1] (fun nv wr => ∃ (k cap : Nat) (g : Nat), 1 ≤ k ∧ k ≤ 16 ∧ nv = .slice (some ⟨g, 0, none⟩) k cap ∧ wr.ownsRow w.heap.size 3 1 nv k ((D.take k).map iv) ∧ w.grownBy wr none) (fun nv _ => 16 - (match nv with | .slice _ n _ => n | _ => 0))
  case atStart => exact ⟨1, 1, w.heap.size, Nat.le_refl _, by omega, rfl, unhide H1, gb_alloc (gb_refl _ _) _⟩
  case round =>
    obtain ⟨k, cap, g, hk1, hk2, rfl, hown, hg⟩ := hrel
    have hgs := hg.size
    by_cases hlt : k < 16
    · have c1 : (k : Int) < 16 := by omega
      have hkD : k < D.length := by rw [unhide HDL]; exact hlt
      have hnx : D.take (k + 1) = D.take k ++ [255] := by rw [List.take_succ_eq_append_getElem hkD, unhide HDG k hk1 hkD]
      have HNX := hide hnx
      have HOWN := hide hown
      clear hnx hown hkD
      go_wp2_with (at_builtin; refine wpList_append_own _ rfl _ _ 44 rfl w.heap.size 3 i0 (.int .i64 0) 1 8 Try.underlying44 hi hz0 hz1 hz2 rfl (by decide) _ _ _ rfl ((unhide HOWN).alloc _) ⟨wr.heap.size, 0, none⟩ 1 1 [.int .i64 255] rfl rfl (fun t0 y0 h0 => by match t0, h0 with | 0, h0 => simp at h0; subst h0; simp [Addr.add]) (fun y0 h0 => by simp at h0; subst h0; rfl) (by unfold maxLen; omega) (by omega) (by first | omega | (simp; omega)) ?_)
      intro v4 w4 o4 g4 _
      have hg4 : w.grownBy w4 none := gb_trans (gb_alloc hg _) g4 (fun y e => Or.inl ((unhide HOWN).lt y e).1)
      have o5 : w4.ownsRow w.heap.size 3 1 v4 (k + 1) ((D.take (k + 1)).map iv) := by
        rw [unhide HNX, List.map_append, List.map_take]; exact o4
      obtain ⟨g5, cap5, hv5⟩ : ∃ g5 cap5, v4 = .slice (some ⟨g5, 0, none⟩) (k + 1) cap5 := by
        rcases o5.2 with ⟨_, h0⟩ | ⟨g5, cap5, cur5, hv5, _⟩
        · omega
        · exact ⟨g5, cap5, hv5⟩
      subst hv5
      clear g4 o4
      go_wp2
      go_roundw
      case rel => exact ⟨k + 1, cap5, g5, by omega, by omega, rfl, o5, hg4⟩
      case measure => show 16 - (k + 1) < 16 - k; omega
    · have c1 : ¬ (k : Int) < 16 := by omega
      obtain rfl : k = 16 := by omega
      rw [List.take_of_length_le (by rw [unhide HDL]; exact Nat.le_refl _)] at hown
      rw [show ((16 : Nat) : Int) = 16 from rfl] at c1
      have HOWN := hide hown
      clear hown
      go_wp2_with (at_builtin; refine wpList_append_own _ rfl _ _ 44 rfl w.heap.size 3 i0 (.int .i64 0) 1 8 Try.underlying44 hi hz0 hz1 hz2 rfl (by decide) _ _ _ rfl ((unhide HOWN).alloc _) ⟨wr.heap.size, 0, none⟩ 1 1 [.int .i64 3] rfl rfl (fun t0 y0 h0 => by match t0, h0 with | 0, h0 => simp at h0; subst h0; simp [Addr.add]) (fun y0 h0 => by simp at h0; subst h0; rfl) (by unfold maxLen; omega) (by omega) (by first | omega | (simp; omega)) ?_)
      intro v4 w4 o4 g4 _
      have hg4 : w.grownBy w4 none := gb_trans (gb_alloc hg _) g4 (fun y e => Or.inl ((unhide HOWN).lt y e).1)
      have hN : NumV w w4 v4 pN 17 := by
        refine ⟨D ++ [3], ?_, unhide HDV, unhide HDD, by rw [List.length_append, unhide HDL]; exact Nat.le_refl _⟩
        rw [List.length_append, unhide HDL, List.map_append]; exact o4
      have HN := hide hN
      clear g4 o4 hN
      go_wp2
      go_ret
      exact ⟨_, rfl, unhide HN, hg4⟩

set_option maxRecDepth 100000 in
set_option maxHeartbeats 1000000 in
theorem below_any (w : World) (ao : Option Addr) (ca : Nat) (a : List Nat) (ha : Ints w ao ca a) (da : ∀ d ∈ a, d < 256) (bo : Option Addr) (cb : Nat) (b : List Nat) (hb : Ints w bo cb b) (db : ∀ d ∈ b, d < 256) (la : a.length ≤ 400) (lb : b.length ≤ 400) :
    Calls Try.prog 25 #[.slice ao a.length ca, .slice bo b.length cb] w fun e w' => e = .returned (.bool (decide (valN a < valN b))) ∧ w' = w := by
  obtain ⟨p, hp⟩ : ∃ p, p = a.length := ⟨_, rfl⟩
  obtain ⟨q, hq⟩ : ∃ q, q = b.length := ⟨_, rfl⟩
  have hdg := fun i => digit_any w ao ca a ha i
  have hdh := fun i => digit_any w bo cb b hb i
  rw [← hp] at hdg la
  rw [← hq] at hdh lb
  rw [← hp, ← hq]
  have HDA := hide da
  have HDB := hide db
  have HP := hide hp
  have HQ := hide hq
  clear hp hq ha hb da db
  by_cases hpq : p < q
  · have c9 : (p : Int) < (q : Int) := by omega
    skip
    go_enter Try.func25, Try.ntmps25
    go_wp2
    go_loopw [5] (fun iv' wr => ∃ j : Nat, j ≤ q ∧ iv' = .int .i64 ((j : Int) - 1) ∧ (valN a < valN b ↔ preN a j < preN b j) ∧ wr = w) (fun iv' _ => (intOf iv' + 1).toNat)
    case atStart =>
      refine ⟨q, Nat.le_refl _, rfl, ?_, rfl⟩
      rw [preN_all a q (by have := unhide HP; have := unhide HQ; omega), preN_all b q (by have := unhide HP; have := unhide HQ; omega)]
    case round =>
      obtain ⟨j, hj, rfl, hiff, rfl⟩ := hrel
      by_cases h0 : 0 < j
      · obtain ⟨i, rfl⟩ : ∃ i, j = i + 1 := ⟨j - 1, by omega⟩
        have e1 : ((i + 1 : Nat) : Int) - 1 = (i : Int) := by omega
        rw [e1]
        have c0 : (0 : Int) ≤ (i : Int) := by omega
        have hda := hdg i
        have hdb := hdh i
        obtain ⟨x, hx⟩ : ∃ x, x = a.getD i 0 := ⟨_, rfl⟩
        obtain ⟨y, hy⟩ : ∃ y, y = b.getD i 0 := ⟨_, rfl⟩
        rw [← hx] at hda
        rw [← hy] at hdb
        by_cases hxy : x = y
        · have hnx : valN a < valN b ↔ preN a i < preN b i := by rw [hiff]; exact below_eq (by rw [← hx, ← hy]; exact hxy)
          have q1 : ((x : Int) == (y : Int)) = true := by simp [hxy]
          have HNX := hide hnx
          clear hiff hnx hx hy
          go_wp2_with fail
          refine hda.mono ?_
          rintro e _ ⟨rfl, rfl⟩
          go_wp2_with fail
          refine hdb.mono ?_
          rintro e _ ⟨rfl, rfl⟩
          go_wp2
          go_roundw
          case rel => exact ⟨i, by omega, by go_num, unhide HNX, trivial⟩
          case measure => simp [intOf]
        · have q1 : ((x : Int) == (y : Int)) = false := by simp; omega
          by_cases hl : x < y
          · have h1 := hiff.2 (below_lt (unhide HDA) (by rw [← hx, ← hy]; exact hl))
            have HR := hide (decide_eq_true h1)
            have q2 : (x : Int) < (y : Int) := by omega
            clear hiff hx hy h1
            go_wp2_with fail
            refine hda.mono ?_
            rintro e _ ⟨rfl, rfl⟩
            go_wp2_with fail
            refine hdb.mono ?_
            rintro e _ ⟨rfl, rfl⟩
            go_wp2_with fail
            refine hda.mono ?_
            rintro e _ ⟨rfl, rfl⟩
            go_wp2_with fail
            refine hdb.mono ?_
            rintro e _ ⟨rfl, rfl⟩
            go_wp2
            go_ret
            rw [unhide HR]
            exact ⟨rfl, rfl⟩
          · have h1 : ¬ valN a < valN b := fun h => below_gt (a := a) (b := b) (i := i) (unhide HDB) (by rw [← hx, ← hy]; omega) (hiff.1 h)
            have HR := hide (decide_eq_false h1)
            have q2 : ¬ (x : Int) < (y : Int) := by omega
            clear hiff hx hy h1
            go_wp2_with fail
            refine hda.mono ?_
            rintro e _ ⟨rfl, rfl⟩
            go_wp2_with fail
            refine hdb.mono ?_
            rintro e _ ⟨rfl, rfl⟩
            go_wp2_with fail
            refine hda.mono ?_
            rintro e _ ⟨rfl, rfl⟩
            go_wp2_with fail
            refine hdb.mono ?_
            rintro e _ ⟨rfl, rfl⟩
            go_wp2
            go_ret
            rw [unhide HR]
            exact ⟨rfl, rfl⟩
      · obtain rfl : j = 0 := by omega
        have hno : ¬ valN a < valN b := fun h => by have := hiff.1 h; rw [preN_zero, preN_zero] at this; omega
        have HR := hide (decide_eq_false hno)
        clear hiff hno
        go_wp2
        go_ret
        rw [unhide HR]
        exact ⟨rfl, rfl⟩
  · have c9 : ¬ (p : Int) < (q : Int) := by omega
    skip
    go_enter Try.func25, Try.ntmps25
    go_wp2
    go_loopw [5] (fun iv' wr => ∃ j : Nat, j ≤ p ∧ iv' = .int .i64 ((j : Int) - 1) ∧ (valN a < valN b ↔ preN a j < preN b j) ∧ wr = w) (fun iv' _ => (intOf iv' + 1).toNat)
    case atStart =>
      refine ⟨p, Nat.le_refl _, rfl, ?_, rfl⟩
      rw [preN_all a p (by have := unhide HP; have := unhide HQ; omega), preN_all b p (by have := unhide HP; have := unhide HQ; omega)]
    case round =>
      obtain ⟨j, hj, rfl, hiff, rfl⟩ := hrel
      by_cases h0 : 0 < j
      · obtain ⟨i, rfl⟩ : ∃ i, j = i + 1 := ⟨j - 1, by omega⟩
        have e1 : ((i + 1 : Nat) : Int) - 1 = (i : Int) := by omega
        rw [e1]
        have c0 : (0 : Int) ≤ (i : Int) := by omega
        have hda := hdg i
        have hdb := hdh i
        obtain ⟨x, hx⟩ : ∃ x, x = a.getD i 0 := ⟨_, rfl⟩
        obtain ⟨y, hy⟩ : ∃ y, y = b.getD i 0 := ⟨_, rfl⟩
        rw [← hx] at hda
        rw [← hy] at hdb
        by_cases hxy : x = y
        · have hnx : valN a < valN b ↔ preN a i < preN b i := by rw [hiff]; exact below_eq (by rw [← hx, ← hy]; exact hxy)
          have q1 : ((x : Int) == (y : Int)) = true := by simp [hxy]
          have HNX := hide hnx
          clear hiff hnx hx hy
          go_wp2_with fail
          refine hda.mono ?_
          rintro e _ ⟨rfl, rfl⟩
          go_wp2_with fail
          refine hdb.mono ?_
          rintro e _ ⟨rfl, rfl⟩
          go_wp2
          go_roundw
          case rel => exact ⟨i, by omega, by go_num, unhide HNX, trivial⟩
          case measure => simp [intOf]
        · have q1 : ((x : Int) == (y : Int)) = false := by simp; omega
          by_cases hl : x < y
          · have h1 := hiff.2 (below_lt (unhide HDA) (by rw [← hx, ← hy]; exact hl))
            have HR := hide (decide_eq_true h1)
            have q2 : (x : Int) < (y : Int) := by omega
            clear hiff hx hy h1
            go_wp2_with fail
            refine hda.mono ?_
            rintro e _ ⟨rfl, rfl⟩
            go_wp2_with fail
            refine hdb.mono ?_
            rintro e _ ⟨rfl, rfl⟩
            go_wp2_with fail
            refine hda.mono ?_
            rintro e _ ⟨rfl, rfl⟩
            go_wp2_with fail
            refine hdb.mono ?_
            rintro e _ ⟨rfl, rfl⟩
            go_wp2
            go_ret
            rw [unhide HR]
            exact ⟨rfl, rfl⟩
          · have h1 : ¬ valN a < valN b := fun h => below_gt (a := a) (b := b) (i := i) (unhide HDB) (by rw [← hx, ← hy]; omega) (hiff.1 h)
            have HR := hide (decide_eq_false h1)
            have q2 : ¬ (x : Int) < (y : Int) := by omega
            clear hiff hx hy h1
            go_wp2_with fail
            refine hda.mono ?_
            rintro e _ ⟨rfl, rfl⟩
            go_wp2_with fail
            refine hdb.mono ?_
            rintro e _ ⟨rfl, rfl⟩
            go_wp2_with fail
            refine hda.mono ?_
            rintro e _ ⟨rfl, rfl⟩
            go_wp2_with fail
            refine hdb.mono ?_
            rintro e _ ⟨rfl, rfl⟩
            go_wp2
            go_ret
            rw [unhide HR]
            exact ⟨rfl, rfl⟩
      · obtain rfl : j = 0 := by omega
        have hno : ¬ valN a < valN b := fun h => by have := hiff.1 h; rw [preN_zero, preN_zero] at this; omega
        have HR := hide (decide_eq_false hno)
        clear hiff hno
        go_wp2
        go_ret
        rw [unhide HR]
        exact ⟨rfl, rfl⟩

end Go.Proofs.Ytagdileacidnjaa
