/- What the document's answer for layer 5 reckons with digits: Add, of, prime, below (package coffretref05). Of numbers of at most 400 digits. -/
import Derived.Test.YtagdileacidnjaaPInts
import Derived.Deep.Onto
namespace Go.Proofs.Ytagdileacidnjaa
open Go.RowKit

theorem NumV.mono {w u w' : World} {v : Value} {n len : Nat} (h : NumV u w' v n len) (hs : w.heap.size ≤ u.heap.size) : NumV w w' v n len := by
  obtain ⟨out, h1, h2⟩ := h
  exact ⟨out, h1.mono hs, h2⟩

set_option maxRecDepth 100000 in
set_option maxHeartbeats 1000000 in
theorem add_any (w : World) (ao : Option Addr) (ca : Nat) (a : List Nat) (ha : Ints w ao ca a) (da : ∀ d ∈ a, d < 256) (bo : Option Addr) (cb : Nat) (b : List Nat) (hb : Ints w bo cb b) (db : ∀ d ∈ b, d < 256) (la : a.length ≤ 400) (lb : b.length ≤ 400) :
    Calls Try.prog 21 #[.slice ao a.length ca, .slice bo b.length cb] w fun e w' => ∃ v, e = .returned v ∧ NumV w w' v (valN a + valN b) (max a.length b.length + 1) ∧ w.grownBy w' none := by
  obtain ⟨i0, hi, hz0, hz1, hz2⟩ := info_parts info_int
  obtain ⟨p, hp⟩ : ∃ p, p = a.length := ⟨_, rfl⟩
  obtain ⟨q, hq⟩ : ∃ q, q = b.length := ⟨_, rfl⟩
  obtain ⟨S, hS⟩ : ∃ S, S = addD a b := ⟨_, rfl⟩
  have hSl : S.length = max p q := by rw [hS, addD_length, hp, hq]
  have hSv : valN S = valN a + valN b := by rw [hS, addD_val]
  have hSlt : valN S < 256 ^ (max p q + 1) := by
    have h1 := valN_lt a da
    have h2 := valN_lt b db
    have h3 : 256 ^ a.length ≤ 256 ^ max p q := Nat.pow_le_pow_right (by omega) (by omega)
    have h4 : 256 ^ b.length ≤ 256 ^ max p q := Nat.pow_le_pow_right (by omega) (by omega)
    rw [hSv, Nat.pow_succ]
    omega
  have HSLT := hide hSlt
  clear hSlt
  have hSg : ∀ i, S.getD i 0 = a.getD i 0 + b.getD i 0 := fun i => by
    rw [hS]
    by_cases h : i < max a.length b.length
    · have h2 : i < (addD a b).length := by rw [addD_length]; exact h
      rw [show (addD a b).getD i 0 = (addD a b)[i] by rw [List.getD, List.getElem?_eq_getElem h2]; rfl]
      simp [addD]
    · rw [getD_out (addD a b) i (by rw [addD_length]; exact h), getD_out a i (by omega), getD_out b i (by omega)]
  have hSd : ∀ d ∈ S, d ≤ 1099511627776 := by
    intro d hd
    obtain ⟨i, hi, rfl⟩ := List.getElem_of_mem hd
    have := hSg i
    rw [show S.getD i 0 = S[i] by rw [List.getD, List.getElem?_eq_getElem hi]; rfl] at this
    have h1 := getD_lt da i
    have h2 := getD_lt db i
    omega
  have hdg := fun V (g : w.grownBy V none) i => digit_any V ao ca a (ha.kept g) i
  have hdh := fun V (g : w.grownBy V none) i => digit_any V bo cb b (hb.kept g) i
  rw [← hp] at hdg la
  rw [← hq] at hdh lb
  rw [← hp, ← hq, ← hSv]
  have HDA := hide da
  have HDB := hide db
  have HSL := hide hSl
  have HSG := hide hSg
  have HSD := hide hSd
  clear hp hq hS hSl hSv hSg hSd ha hb da db
  go_enter Try.func21, Try.ntmps21
  go_wp2
  go_loopw [5, 6] (fun ov iv' wr => ∃ i : Nat, i ≤ max p q ∧ iv' = .int .i64 i ∧ wr.ownsRow w.heap.size 3 1 ov i ((S.take i).map iv) ∧ w.grownBy wr none) (fun _ iv' _ => max p q - (intOf iv').toNat)
  case atStart => exact ⟨0, Nat.zero_le _, rfl, World.ownsRow_nil _ _ _ _, gb_refl _ _⟩
  case round =>
    obtain ⟨i, him, rfl, hown, hg⟩ := hrel
    by_cases hgo : i < max p q
    · have hda := hdg wr hg i
      have hdb := hdh wr hg i
      have hsg := unhide HSG i
      have l1 := getD_lt (unhide HDA) i
      have l2 := getD_lt (unhide HDB) i
      obtain ⟨x, hx⟩ : ∃ x, x = a.getD i 0 := ⟨_, rfl⟩
      obtain ⟨y, hy⟩ : ∃ y, y = b.getD i 0 := ⟨_, rfl⟩
      rw [← hx] at hda hsg l1
      rw [← hy] at hdb hsg l2
      obtain ⟨s, hs⟩ : ∃ s : Nat, s = x + y := ⟨_, rfl⟩
      have hnx : S.take (i + 1) = S.take i ++ [s] := by
        have h1 : i < S.length := by rw [unhide HSL]; exact hgo
        rw [List.take_succ_eq_append_getElem h1, hs, ← hsg, List.getD, List.getElem?_eq_getElem h1]; rfl
      have a1 : (x : Int) + (y : Int) = (s : Int) := by omega
      have a2 : IntKind.i64.wrap (s : Int) = (s : Int) := by rw [IntKind.wrap_i64]; omega
      have HNX := hide hnx
      have HOWN := hide hown
      have hgs := hg.size
      clear hx hy hs hsg hnx hown
      by_cases hi1 : i < p
      · have c1 : (i : Int) < (p : Int) := by omega
        go_wp2_with fail
        refine hda.mono ?_
        rintro e w2 ⟨rfl, rfl⟩
        clear hda
        go_wp2_with fail
        refine hdb.mono ?_
        rintro e w3 ⟨rfl, rfl⟩
        clear hdb
        go_wp2_with (at_builtin; refine wpList_append_own _ rfl _ _ 44 rfl w.heap.size 3 i0 (.int .i64 0) 1 8 Try.underlying44 hi hz0 hz1 hz2 rfl (by decide) _ _ _ rfl ((unhide HOWN).alloc _) ⟨w3.heap.size, 0, none⟩ 1 1 [.int .i64 (s : Int)] rfl rfl (fun t0 y0 h0 => by match t0, h0 with | 0, h0 => simp at h0; subst h0; simp [Addr.add]) (fun y0 h0 => by simp at h0; subst h0; rfl) (by unfold maxLen; omega) (by omega) (by first | omega | (simp; omega)) ?_)
        intro v4 w4 o4 g4 _
        have hg4 : w.grownBy w4 none := gb_trans (gb_alloc hg _) g4 (fun y e => Or.inl ((unhide HOWN).lt y e).1)
        clear g4
        go_wp2
        go_roundw
        case rel =>
          refine ⟨i + 1, by omega, by go_num, ?_, hg4⟩
          rw [unhide HNX, List.map_append, List.map_take]
          exact o4
        case measure => simp [intOf]; omega
      · have c1 : ¬ (i : Int) < (p : Int) := by omega
        have c2 : (i : Int) < (q : Int) := by omega
        go_wp2_with fail
        refine hda.mono ?_
        rintro e w2 ⟨rfl, rfl⟩
        clear hda
        go_wp2_with fail
        refine hdb.mono ?_
        rintro e w3 ⟨rfl, rfl⟩
        clear hdb
        go_wp2_with (at_builtin; refine wpList_append_own _ rfl _ _ 44 rfl w.heap.size 3 i0 (.int .i64 0) 1 8 Try.underlying44 hi hz0 hz1 hz2 rfl (by decide) _ _ _ rfl ((unhide HOWN).alloc _) ⟨w3.heap.size, 0, none⟩ 1 1 [.int .i64 (s : Int)] rfl rfl (fun t0 y0 h0 => by match t0, h0 with | 0, h0 => simp at h0; subst h0; simp [Addr.add]) (fun y0 h0 => by simp at h0; subst h0; rfl) (by unfold maxLen; omega) (by omega) (by first | omega | (simp; omega)) ?_)
        intro v4 w4 o4 g4 _
        have hg4 : w.grownBy w4 none := gb_trans (gb_alloc hg _) g4 (fun y e => Or.inl ((unhide HOWN).lt y e).1)
        clear g4
        go_wp2
        go_roundw
        case rel =>
          refine ⟨i + 1, by omega, by go_num, ?_, hg4⟩
          rw [unhide HNX, List.map_append, List.map_take]
          exact o4
        case measure => simp [intOf]; omega
    · have c1 : ¬ (i : Int) < (p : Int) := by omega
      have c2 : ¬ (i : Int) < (q : Int) := by omega
      have hiq : i = max p q := by omega
      have hsl := unhide HSL
      rw [List.take_of_length_le (by omega)] at hown
      obtain rfl : i = S.length := by omega
      obtain ⟨so, sc, rfl, hI⟩ := Ints.own hown
      have hca := carried_any wr so sc S hI (unhide HSD) (by omega) (max p q + 1) (by omega) (unhide HSLT)
      have hgs := hg.size
      rw [hsl] at hca
      have HSL2 := hide hsl
      clear hown hI hdg hdh hiq
      rw [unhide HSL2]
      clear hsl
      rw [unhide HSL2] at him c1 c2
      go_wp2_with fail
      refine hca.mono ?_
      rintro e w2 ⟨v2, rfl, n2, g2⟩
      clear hca
      go_wp2
      go_ret
      exact ⟨_, rfl, n2.mono hgs, gb_trans hg g2 (fun _ e => by cases e)⟩

set_option maxRecDepth 100000 in
set_option maxHeartbeats 1000000 in
theorem of_any (w : World) (l : List UInt8) (hl : l.length ≤ 1000) :
    Calls Try.prog 22 #[.string (str l)] w fun e w' => ∃ v, e = .returned v ∧ NumV w w' v (leN l + 256 ^ l.length) (l.length + 1) ∧ w.grownBy w' none := by
  obtain ⟨i0, hi, hz0, hz1, hz2⟩ := info_parts info_int
  have hsz := str_size l
  obtain ⟨q, hq⟩ : ∃ q, q = l.length := ⟨_, rfl⟩
  obtain ⟨D, hD⟩ : ∃ D, D = l.map UInt8.toNat := ⟨_, rfl⟩
  have hDl : D.length = q := by rw [hD, hq]; simp
  have hDv : leN l = valN D := by rw [hD]; rfl
  have hDd : ∀ d ∈ D, d < 256 := by
    intro d hd
    rw [hD] at hd
    obtain ⟨x, _, rfl⟩ := List.mem_map.1 hd
    exact x.toNat_lt
  have hidx : ∀ i (hi : i < D.length), ∀ h, ((str l)[i]'h).toNat = D[i] := fun i hi h => by
    have e : (str l)[i]'h = l[i]'(by rw [hDl, hq] at hi; exact hi) := rfl
    rw [e]
    simp [hD]
  rw [← hq] at hsz hl ⊢
  rw [hDv]
  have HDL := hide hDl
  have HDD := hide hDd
  have HIX := hide hidx
  clear hq hD hDl hDv hDd hidx
  go_enter Try.func22, Try.ntmps22
  go_wp2
  go_loopw [3, 4] (fun ov iv' wr => ∃ i : Nat, i ≤ q ∧ iv' = .int .i64 i ∧ wr.ownsRow w.heap.size 3 1 ov i ((D.take i).map iv) ∧ w.grownBy wr none) (fun _ iv' _ => q - (intOf iv').toNat)
  case atStart => exact ⟨0, Nat.zero_le _, rfl, World.ownsRow_nil _ _ _ _, gb_refl _ _⟩
  case round =>
    obtain ⟨i, him, rfl, hown, hg⟩ := hrel
    by_cases hgo : i < q
    · have c1 : (i : Int) < (q : Int) := by omega
      have hiD : i < D.length := by rw [unhide HDL]; exact hgo
      have hix := unhide HIX i hiD
      obtain ⟨d, hd⟩ : ∃ d, d = D[i] := ⟨_, rfl⟩
      rw [← hd] at hix
      have hd2 : d < 256 := by rw [hd]; exact unhide HDD _ (List.getElem_mem hiD)
      have hnx : D.take (i + 1) = D.take i ++ [d] := by rw [List.take_succ_eq_append_getElem hiD, hd]
      have a2 : IntKind.i64.wrap (d : Int) = (d : Int) := by rw [IntKind.wrap_i64]; omega
      have q0 : (0 : Int) ≤ (i : Int) := by omega
      have HNX := hide hnx
      have HOWN := hide hown
      have hgs := hg.size
      clear hd hnx hown hiD
      go_wp2_with (at_builtin; refine wpList_append_own _ rfl _ _ 44 rfl w.heap.size 3 i0 (.int .i64 0) 1 8 Try.underlying44 hi hz0 hz1 hz2 rfl (by decide) _ _ _ rfl ((unhide HOWN).alloc _) ⟨wr.heap.size, 0, none⟩ 1 1 [.int .i64 (d : Int)] rfl rfl (fun t0 y0 h0 => by match t0, h0 with | 0, h0 => simp at h0; subst h0; simp [Addr.add]) (fun y0 h0 => by simp at h0; subst h0; rfl) (by unfold maxLen; omega) (by omega) (by first | omega | (simp; omega)) ?_)
      intro v4 w4 o4 g4 _
      have hg4 : w.grownBy w4 none := gb_trans (gb_alloc hg _) g4 (fun y e => Or.inl ((unhide HOWN).lt y e).1)
      clear g4
      go_wp2
      go_roundw
      case rel =>
        refine ⟨i + 1, by omega, by go_num, ?_, hg4⟩
        rw [unhide HNX, List.map_append, List.map_take]
        exact o4
      case measure => simp [intOf]; omega
    · have c1 : ¬ (i : Int) < (q : Int) := by omega
      obtain rfl : i = q := by omega
      rw [List.take_of_length_le (by rw [unhide HDL]; exact Nat.le_refl _)] at hown
      have HOWN := hide hown
      have hgs := hg.size
      clear hown
      go_wp2_with (at_builtin; refine wpList_append_own _ rfl _ _ 44 rfl w.heap.size 3 i0 (.int .i64 0) 1 8 Try.underlying44 hi hz0 hz1 hz2 rfl (by decide) _ _ _ rfl ((unhide HOWN).alloc _) ⟨wr.heap.size, 0, none⟩ 1 1 [.int .i64 1] rfl rfl (fun t0 y0 h0 => by match t0, h0 with | 0, h0 => simp at h0; subst h0; simp [Addr.add]) (fun y0 h0 => by simp at h0; subst h0; rfl) (by unfold maxLen; omega) (by omega) (by first | omega | (simp; omega)) ?_)
      intro v4 w4 o4 g4 _
      have hg4 : w.grownBy w4 none := gb_trans (gb_alloc hg _) g4 (fun y e => Or.inl ((unhide HOWN).lt y e).1)
      have hN : NumV w w4 v4 (valN D + 256 ^ i) (i + 1) := by
        refine ⟨D ++ [1], ?_, by rw [valN_snoc, unhide HDL, Nat.mul_one], ?_, by rw [List.length_append, unhide HDL]; exact Nat.le_refl _⟩
        · rw [List.length_append, unhide HDL, List.map_append]; exact o4
        · intro y hy
          rcases List.mem_append.1 hy with hy | hy
          · exact unhide HDD y hy
          · rw [List.mem_singleton] at hy; omega
      have HN := hide hN
      clear g4 o4 hN
      go_wp2
      go_ret
      exact ⟨_, rfl, unhide HN, hg4⟩

end Go.Proofs.Ytagdileacidnjaa
