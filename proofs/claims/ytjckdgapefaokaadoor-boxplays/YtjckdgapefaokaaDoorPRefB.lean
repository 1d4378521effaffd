/- What the document's answer for layer 5 reckons with digits: Add, of, prime, below (package coffretref05). Of numbers of at most 400 digits. -/
import Derived.Test.YtjckdgapefaokaaDoorPInts
import Derived.Deep.Onto
namespace Go.Proofs.YtjckdgapefaokaaDoor
open Go.RowKit

theorem NumV.mono {w u w' : World} {v : Value} {n len : Nat} (h : NumV u w' v n len) (hs : w.heap.size ≤ u.heap.size) : NumV w w' v n len := by
  obtain ⟨out, h1, h2⟩ := h
  exact ⟨out, h1.mono hs, h2⟩

set_option maxRecDepth 100000 in
set_option maxHeartbeats 1000000 in
theorem add_any (w : World) (ao : Option Addr) (ca : Nat) (a : List Nat) (ha : Ints w ao ca a) (da : ∀ d ∈ a, d < 256) (bo : Option Addr) (cb : Nat) (b : List Nat) (hb : Ints w bo cb b) (db : ∀ d ∈ b, d < 256) (la : a.length ≤ 400) (lb : b.length ≤ 400) :
    Calls Tryd.prog 88 #[.slice ao a.length ca, .slice bo b.length cb] w fun e w' => ∃ v, e = .returned v ∧ NumV w w' v (valN a + valN b) (max a.length b.length + 1) ∧ w.grownBy w' none := by
  obtain ⟨i0, hi, hz0, hz1, hz2⟩ := info_parts info_int
  obtain ⟨p, hp⟩ : ∃ p, p = a.length := ⟨_, rfl⟩
  obtain ⟨q, hq⟩ : ∃ q, q = b.length := ⟨_, rfl⟩
  obtain ⟨S, hS⟩ : ∃ S, S = addD a b := ⟨_, rfl⟩
  have hSl : S.length = max p q := by rw [hS, addD_length, hp, hq]
  have hSv : valN S = valN a + valN b := by rw [hS, addD_val]
  have hSlt : valN S < 256 ^ (max p q + 1) := by
    have h1 := valN_lt a da
    have h2 := valN_lt b db
    have h3 : 256 ^ a.length ≤ 256 ^ max p q := Nat.pow_le_pow_right (by omega) (by omega)
    have h4 : 256 ^ b.length ≤ 256 ^ max p q := Nat.pow_le_pow_right (by omega) (by omega)
    rw [hSv, Nat.pow_succ]
    omega
  have HSLT := hide hSlt
  clear hSlt
  have hSg : ∀ i, S.getD i 0 = a.getD i 0 + b.getD i 0 := fun i => by
    rw [hS]
    by_cases h : i < max a.length b.length
    · have h2 : i < (addD a b).length := by rw [addD_length]; exact h
      rw [show (addD a b).getD i 0 = (addD a b)[i] by rw [List.getD, List.getElem?_eq_getElem h2]; rfl]
      simp [addD]
    · rw [getD_out (addD a b) i (by rw [addD_length]; exact h), getD_out a i (by omega), getD_out b i (by omega)]
  have hSd : ∀ d ∈ S, d ≤ 1099511627776 := by
    intro d hd
    obtain ⟨i, hi, rfl⟩ := List.getElem_of_mem hd
    have := hSg i
    rw [show S.getD i 0 = S[i] by rw [List.getD, List.getElem?_eq_getElem hi]; rfl] at this
    have h1 := getD_lt da i
    have h2 := getD_lt db i
    omega
  have hdg := fun V (g : w.grownBy V none) i => digit_any V ao ca a (ha.kept g) i
  have hdh := fun V (g : w.grownBy V none) i => digit_any V bo cb b (hb.kept g) i
  rw [← hp] at hdg la
  rw [← hq] at hdh lb
  rw [← hp, ← hq, ← hSv]
  have HDA := hide da
  have HDB := hide db
  have HSL := hide hSl
  have HSG := hide hSg
  have HSD := hide hSd
  clear hp hq hS hSl hSv hSg hSd ha hb da db
  go_enter Tryd.func88, Tryd.ntmps88
  go_wp2
  go_loopw [5, 6] (fun ov iv' wr => ∃ i : Nat, i ≤ max p q ∧ iv' = .int .i64 i ∧ wr.ownsRow w.heap.size 3 1 ov i ((S.take i).map iv) ∧ w.grownBy wr none) (fun _ iv' _ => max p q - (intOf iv').toNat)
  case atStart => exact ⟨0, Nat.zero_le _, rfl, World.ownsRow_nil _ _ _ _, gb_refl _ _⟩
  case round =>
    obtain ⟨i, him, rfl, hown, hg⟩ := hrel
    by_cases hgo : i < max p q
    · have hda := hdg wr hg i
      have hdb := hdh wr hg i
      have hsg := unhide HSG i
      have l1 := getD_lt (unhide HDA) i
      have l2 := getD_lt (unhide HDB) i
      obtain ⟨x, hx⟩ : ∃ x, x = a.getD i 0 := ⟨_, rfl⟩
      obtain ⟨y, hy⟩ : ∃ y, y = b.getD i 0 := ⟨_, rfl⟩
      rw [← hx] at hda hsg l1
      rw [← hy] at hdb hsg l2
      obtain ⟨s, hs⟩ : ∃ s : Nat, s = x + y := ⟨_, rfl⟩
      have hnx : S.take (i + 1) = S.take i ++ [s] := by
        have h1 : i < S.length := by rw [unhide HSL]; exact hgo
        rw [List.take_succ_eq_append_getElem h1, hs, ← hsg, List.getD, List.getElem?_eq_getElem h1]; rfl
      have a1 : (x : Int) + (y : Int) = (s : Int) := by omega
      have a2 : IntKind.i64.wrap (s : Int) = (s : Int) := by rw [IntKind.wrap_i64]; omega
      have HNX := hide hnx
      have HOWN := hide hown
      have hgs := hg.size
      clear hx hy hs hsg hnx hown
      by_cases hi1 : i < p
      · have c1 : (i : Int) < (p : Int) := by omega
        go_wp2_with fail
        refine hda.mono ?_
        rintro e w2 ⟨rfl, rfl⟩
        clear hda
        go_wp2_with fail
        refine hdb.mono ?_
        rintro e w3 ⟨rfl, rfl⟩
        clear hdb
        go_wp2_with (at_builtin; refine wpList_append_own _ rfl _ _ 151 rfl w.heap.size 3 i0 (.int .i64 0) 1 8 Tryd.underlying151 hi hz0 hz1 hz2 rfl (by decide) _ _ _ rfl ((unhide HOWN).alloc _) ⟨w3.heap.size, 0, none⟩ 1 1 [.int .i64 (s : Int)] rfl rfl (fun t0 y0 h0 => by match t0, h0 with | 0, h0 => simp at h0; subst h0; simp [Addr.add]) (fun y0 h0 => by simp at h0; subst h0; rfl) (by unfold maxLen; omega) (by omega) (by first | omega | (simp; omega)) ?_)
        intro v4 w4 o4 g4 _
        have hg4 : w.grownBy w4 none := gb_trans (gb_alloc hg _) g4 (fun y e => Or.inl ((unhide HOWN).lt y e).1)
        clear g4
        go_wp2
        go_roundw
        case rel =>
          refine ⟨i + 1, by omega, by go_num, ?_, hg4⟩
          rw [unhide HNX, List.map_append, List.map_take]
          exact o4
        case measure => simp [intOf]; omega
      · have c1 : ¬ (i : Int) < (p : Int) := by omega
        have c2 : (i : Int) < (q : Int) := by omega
        go_wp2_with fail
        refine hda.mono ?_
        rintro e w2 ⟨rfl, rfl⟩
        clear hda
        go_wp2_with fail
        refine hdb.mono ?_
        rintro e w3 ⟨rfl, rfl⟩
        clear hdb
        go_wp2_with (at_builtin; refine wpList_append_own _ rfl _ _ 151 rfl w.heap.size 3 i0 (.int .i64 0) 1 8 Tryd.underlying151 hi hz0 hz1 hz2 rfl (by decide) _ _ _ rfl ((unhide HOWN).alloc _) ⟨w3.heap.size, 0, none⟩ 1 1 [.int .i64 (s : Int)] rfl rfl (fun t0 y0 h0 => by match t0, h0 with | 0, h0 => simp at h0; subst h0; simp [Addr.add]) (fun y0 h0 => by simp at h0; subst h0; rfl) (by unfold maxLen; omega) (by omega) (by first | omega | (simp; omega)) ?_)
        intro v4 w4 o4 g4 _
        have hg4 : w.grownBy w4 none := gb_trans (gb_alloc hg _) g4 (fun y e => Or.inl ((unhide HOWN).lt y e).1)
        clear g4
        go_wp2
        go_roundw
        case rel =>
          refine ⟨i + 1, by omega, by go_num, ?_, hg4⟩
          rw [unhide HNX, List.map_append, List.map_take]
          exact o4
        case measure => simp [intOf]; omega
    · have c1 : ¬ (i : Int) < (p : Int) := by omega
      have c2 : ¬ (i : Int) < (q : Int) := by omega
      have hiq : i = max p q := by omega
      have hsl := unhide HSL
      rw [List.take_of_length_le (by omega)] at hown
      obtain rfl : i = S.length := by omega
      obtain ⟨so, sc, rfl, hI⟩ := Ints.own hown
      have hca := carried_any wr so sc S hI (unhide HSD) (by omega) (max p q + 1) (by omega) (unhide HSLT)
      have hgs := hg.size
      rw [hsl] at hca
      have HSL2 := hide hsl
      clear hown hI hdg hdh hiq
      rw [unhide HSL2]
      clear hsl
      rw [unhide HSL2] at him c1 c2
      go_wp2_with fail
      refine hca.mono ?_
      rintro e w2 ⟨v2, rfl, n2, g2⟩
      clear hca
      go_wp2
      go_ret
      exact ⟨_, rfl, n2.mono hgs, gb_trans hg g2 (fun _ e => by cases e)⟩

set_option maxRecDepth 100000 in
set_option maxHeartbeats 1000000 in
theorem pof_any (w : World) (l : List UInt8) (hl : l.length ≤ 1000) :
    Calls Tryd.prog 89 #[.string (str l)] w fun e w' => ∃ v, e = .returned v ∧ NumV w w' v (leN l + 256 ^ l.length) (l.length + 1) ∧ w.grownBy w' none := by
  obtain ⟨i0, hi, hz0, hz1, hz2⟩ := info_parts info_int
  have hsz := str_size l
  obtain ⟨q, hq⟩ : ∃ q, q = l.length := ⟨_, rfl⟩
  obtain ⟨D, hD⟩ : ∃ D, D = l.map UInt8.toNat := ⟨_, rfl⟩
  have hDl : D.length = q := by rw [hD, hq]; simp
  have hDv : leN l = valN D := by rw [hD]; rfl
  have hDd : ∀ d ∈ D, d < 256 := by
    intro d hd
    rw [hD] at hd
    obtain ⟨x, _, rfl⟩ := List.mem_map.1 hd
    exact x.toNat_lt
  have hidx : ∀ i (hi : i < D.length), ∀ h, ((str l)[i]'h).toNat = D[i] := fun i hi h => by
    have e : (str l)[i]'h = l[i]'(by rw [hDl, hq] at hi; exact hi) := rfl
    rw [e]
    simp [hD]
  rw [← hq] at hsz hl ⊢
  rw [hDv]
  have HDL := hide hDl
  have HDD := hide hDd
  have HIX := hide hidx
  clear hq hD hDl hDv hDd hidx
  go_enter Tryd.func89, Tryd.ntmps89
  go_wp2
  go_loopw [3, 4] (fun ov iv' wr => ∃ i : Nat, i ≤ q ∧ iv' = .int .i64 i ∧ wr.ownsRow w.heap.size 3 1 ov i ((D.take i).map iv) ∧ w.grownBy wr none) (fun _ iv' _ => q - (intOf iv').toNat)
  case atStart => exact ⟨0, Nat.zero_le _, rfl, World.ownsRow_nil _ _ _ _, gb_refl _ _⟩
  case round =>
    obtain ⟨i, him, rfl, hown, hg⟩ := hrel
    by_cases hgo : i < q
    · have c1 : (i : Int) < (q : Int) := by omega
      have hiD : i < D.length := by rw [unhide HDL]; exact hgo
      have hix := unhide HIX i hiD
      obtain ⟨d, hd⟩ : ∃ d, d = D[i] := ⟨_, rfl⟩
      rw [← hd] at hix
      have hd2 : d < 256 := by rw [hd]; exact unhide HDD _ (List.getElem_mem hiD)
      have hnx : D.take (i + 1) = D.take i ++ [d] := by rw [List.take_succ_eq_append_getElem hiD, hd]
      have a2 : IntKind.i64.wrap (d : Int) = (d : Int) := by rw [IntKind.wrap_i64]; omega
      have q0 : (0 : Int) ≤ (i : Int) := by omega
      have HNX := hide hnx
      have HOWN := hide hown
      have hgs := hg.size
      clear hd hnx hown hiD
      go_wp2_with (at_builtin; refine wpList_append_own _ rfl _ _ 151 rfl w.heap.size 3 i0 (.int .i64 0) 1 8 Tryd.underlying151 hi hz0 hz1 hz2 rfl (by decide) _ _ _ rfl ((unhide HOWN).alloc _) ⟨wr.heap.size, 0, none⟩ 1 1 [.int .i64 (d : Int)] rfl rfl (fun t0 y0 h0 => by match t0, h0 with | 0, h0 => simp at h0; subst h0; simp [Addr.add]) (fun y0 h0 => by simp at h0; subst h0; rfl) (by unfold maxLen; omega) (by omega) (by first | omega | (simp; omega)) ?_)
      intro v4 w4 o4 g4 _
      have hg4 : w.grownBy w4 none := gb_trans (gb_alloc hg _) g4 (fun y e => Or.inl ((unhide HOWN).lt y e).1)
      clear g4
      go_wp2
      go_roundw
      case rel =>
        refine ⟨i + 1, by omega, by go_num, ?_, hg4⟩
        rw [unhide HNX, List.map_append, List.map_take]
        exact o4
      case measure => simp [intOf]; omega
    · have c1 : ¬ (i : Int) < (q : Int) := by omega
      obtain rfl : i = q := by omega
      rw [List.take_of_length_le (by rw [unhide HDL]; exact Nat.le_refl _)] at hown
      have HOWN := hide hown
      have hgs := hg.size
      clear hown
      go_wp2_with (at_builtin; refine wpList_append_own _ rfl _ _ 151 rfl w.heap.size 3 i0 (.int .i64 0) 1 8 Tryd.underlying151 hi hz0 hz1 hz2 rfl (by decide) _ _ _ rfl ((unhide HOWN).alloc _) ⟨wr.heap.size, 0, none⟩ 1 1 [.int .i64 1] rfl rfl (fun t0 y0 h0 => by match t0, h0 with | 0, h0 => simp at h0; subst h0; simp [Addr.add]) (fun y0 h0 => by simp at h0; subst h0; rfl) (by unfold maxLen; omega) (by omega) (by first | omega | (simp; omega)) ?_)
      intro v4 w4 o4 g4 _
      have hg4 : w.grownBy w4 none := gb_trans (gb_alloc hg _) g4 (fun y e => Or.inl ((unhide HOWN).lt y e).1)
      have hN : NumV w w4 v4 (valN D + 256 ^ i) (i + 1) := by
        refine ⟨D ++ [1], ?_, by rw [valN_snoc, unhide HDL, Nat.mul_one], ?_, by rw [List.length_append, unhide HDL]; exact Nat.le_refl _⟩
        · rw [List.length_append, unhide HDL, List.map_append]; exact o4
        · intro y hy
          rcases List.mem_append.1 hy with hy | hy
          · exact unhide HDD y hy
          · rw [List.mem_singleton] at hy; omega
      have HN := hide hN
      clear g4 o4 hN
      go_wp2
      go_ret
      exact ⟨_, rfl, unhide HN, hg4⟩

end Go.Proofs.YtjckdgapefaokaaDoor

/- What the document's answer for layer 5 reckons with digits: prime, below, less (package coffretref05). Of numbers of at most 400 digits. -/
namespace Go.Proofs.YtjckdgapefaokaaDoor
open Go.RowKit

theorem own_one (w : World) (d : Nat) : (w.alloc (.cells #[.int .i64 (d : Int)] 3)).ownsRow w.heap.size 3 1 (.slice (some ⟨w.heap.size, 0, none⟩) 1 1) 1 [iv d] := by
  refine ⟨rfl, Or.inr ⟨w.heap.size, 1, #[.int .i64 (d : Int)], rfl, Nat.le_refl _, heap_alloc_new w _, Nat.le_refl _, by unfold maxLen; omega, ?_, ?_⟩⟩
  · rfl
  · rfl

set_option maxRecDepth 100000 in
set_option maxHeartbeats 1000000 in
theorem prime_any (w : World) :
    Calls Tryd.prog 104 #[] w fun e w' => ∃ v, e = .returned v ∧ NumV w w' v pN 17 ∧ w.grownBy w' none := by
  obtain ⟨i0, hi, hz0, hz1, hz2⟩ := info_parts info_int
  have h1 : (w.alloc (.cells #[.int .i64 251] 3)).ownsRow w.heap.size 3 1 (.slice (some ⟨w.heap.size, 0, none⟩) 1 1) 1 (((251 :: List.replicate 15 255).take 1).map iv) := own_one w 251
  obtain ⟨D, hD⟩ : ∃ D, D = 251 :: List.replicate 15 255 := ⟨_, rfl⟩
  rw [← hD] at h1
  have hDl : D.length = 16 := by rw [hD]; rfl
  have hDg : ∀ k, 1 ≤ k → (h : k < D.length) → D[k] = 255 := by
    intro k hk h
    subst hD
    obtain ⟨j, rfl⟩ : ∃ j, k = j + 1 := ⟨k - 1, by omega⟩
    rw [List.getElem_cons_succ, List.getElem_replicate]
  have hDv : valN (D ++ [3]) = pN := by rw [hD]; decide
  have hDd : ∀ d ∈ D ++ [3], d < 256 := by rw [hD]; decide
  have H1 := hide h1
  have HDL := hide hDl
  have HDG := hide hDg
  have HDV := hide hDv
  have HDD := hide hDd
  clear hD hDl hDg hDv hDd h1
  go_enter Tryd.func104, Tryd.ntmps104
  go_wp2
  go_loopw [1] (fun nv wr => ∃ (k cap : Nat) (g : Nat), 1 ≤ k ∧ k ≤ 16 ∧ nv = .slice (some ⟨g, 0, none⟩) k cap ∧ wr.ownsRow w.heap.size 3 1 nv k ((D.take k).map iv) ∧ w.grownBy wr none) (fun nv _ => 16 - (match nv with | .slice _ n _ => n | _ => 0))
  case atStart => exact ⟨1, 1, w.heap.size, Nat.le_refl _, by omega, rfl, unhide H1, gb_alloc (gb_refl _ _) _⟩
  case round =>
    obtain ⟨k, cap, g, hk1, hk2, rfl, hown, hg⟩ := hrel
    have hgs := hg.size
    by_cases hlt : k < 16
    · have c1 : (k : Int) < 16 := by omega
      have hkD : k < D.length := by rw [unhide HDL]; exact hlt
      have hnx : D.take (k + 1) = D.take k ++ [255] := by rw [List.take_succ_eq_append_getElem hkD, unhide HDG k hk1 hkD]
      have HNX := hide hnx
      have HOWN := hide hown
      clear hnx hown hkD
      go_wp2_with (at_builtin; refine wpList_append_own _ rfl _ _ 151 rfl w.heap.size 3 i0 (.int .i64 0) 1 8 Tryd.underlying151 hi hz0 hz1 hz2 rfl (by decide) _ _ _ rfl ((unhide HOWN).alloc _) ⟨wr.heap.size, 0, none⟩ 1 1 [.int .i64 255] rfl rfl (fun t0 y0 h0 => by match t0, h0 with | 0, h0 => simp at h0; subst h0; simp [Addr.add]) (fun y0 h0 => by simp at h0; subst h0; rfl) (by unfold maxLen; omega) (by omega) (by first | omega | (simp; omega)) ?_)
      intro v4 w4 o4 g4 _
      have hg4 : w.grownBy w4 none := gb_trans (gb_alloc hg _) g4 (fun y e => Or.inl ((unhide HOWN).lt y e).1)
      have o5 : w4.ownsRow w.heap.size 3 1 v4 (k + 1) ((D.take (k + 1)).map iv) := by
        rw [unhide HNX, List.map_append, List.map_take]; exact o4
      obtain ⟨g5, cap5, hv5⟩ : ∃ g5 cap5, v4 = .slice (some ⟨g5, 0, none⟩) (k + 1) cap5 := by
        rcases o5.2 with ⟨_, h0⟩ | ⟨g5, cap5, cur5, hv5, _⟩
        · omega
        · exact ⟨g5, cap5, hv5⟩
      subst hv5
      clear g4 o4
      go_wp2
      go_roundw
      case rel => exact ⟨k + 1, cap5, g5, by omega, by omega, rfl, o5, hg4⟩
      case measure => show 16 - (k + 1) < 16 - k; omega
    · have c1 : ¬ (k : Int) < 16 := by omega
      obtain rfl : k = 16 := by omega
      rw [List.take_of_length_le (by rw [unhide HDL]; exact Nat.le_refl _)] at hown
      rw [show ((16 : Nat) : Int) = 16 from rfl] at c1
      have HOWN := hide hown
      clear hown
      go_wp2_with (at_builtin; refine wpList_append_own _ rfl _ _ 151 rfl w.heap.size 3 i0 (.int .i64 0) 1 8 Tryd.underlying151 hi hz0 hz1 hz2 rfl (by decide) _ _ _ rfl ((unhide HOWN).alloc _) ⟨wr.heap.size, 0, none⟩ 1 1 [.int .i64 3] rfl rfl (fun t0 y0 h0 => by match t0, h0 with | 0, h0 => simp at h0; subst h0; simp [Addr.add]) (fun y0 h0 => by simp at h0; subst h0; rfl) (by unfold maxLen; omega) (by omega) (by first | omega | (simp; omega)) ?_)
      intro v4 w4 o4 g4 _
      have hg4 : w.grownBy w4 none := gb_trans (gb_alloc hg _) g4 (fun y e => Or.inl ((unhide HOWN).lt y e).1)
      have hN : NumV w w4 v4 pN 17 := by
        refine ⟨D ++ [3], ?_, unhide HDV, unhide HDD, by rw [List.length_append, unhide HDL]; exact Nat.le_refl _⟩
        rw [List.length_append, unhide HDL, List.map_append]; exact o4
      have HN := hide hN
      clear g4 o4 hN
      go_wp2
      go_ret
      exact ⟨_, rfl, unhide HN, hg4⟩

set_option maxRecDepth 100000 in
set_option maxHeartbeats 1000000 in
theorem below_any (w : World) (ao : Option Addr) (ca : Nat) (a : List Nat) (ha : Ints w ao ca a) (da : ∀ d ∈ a, d < 256) (bo : Option Addr) (cb : Nat) (b : List Nat) (hb : Ints w bo cb b) (db : ∀ d ∈ b, d < 256) (la : a.length ≤ 400) (lb : b.length ≤ 400) :
    Calls Tryd.prog 103 #[.slice ao a.length ca, .slice bo b.length cb] w fun e w' => e = .returned (.bool (decide (valN a < valN b))) ∧ w' = w := by
  obtain ⟨p, hp⟩ : ∃ p, p = a.length := ⟨_, rfl⟩
  obtain ⟨q, hq⟩ : ∃ q, q = b.length := ⟨_, rfl⟩
  have hdg := fun i => digit_any w ao ca a ha i
  have hdh := fun i => digit_any w bo cb b hb i
  rw [← hp] at hdg la
  rw [← hq] at hdh lb
  rw [← hp, ← hq]
  have HDA := hide da
  have HDB := hide db
  have HP := hide hp
  have HQ := hide hq
  clear hp hq ha hb da db
  by_cases hpq : p < q
  · have c9 : (p : Int) < (q : Int) := by omega
    skip
    go_enter Tryd.func103, Tryd.ntmps103
    go_wp2
    go_loopw [5] (fun iv' wr => ∃ j : Nat, j ≤ q ∧ iv' = .int .i64 ((j : Int) - 1) ∧ (valN a < valN b ↔ preN a j < preN b j) ∧ wr = w) (fun iv' _ => (intOf iv' + 1).toNat)
    case atStart =>
      refine ⟨q, Nat.le_refl _, rfl, ?_, rfl⟩
      rw [preN_all a q (by have := unhide HP; have := unhide HQ; omega), preN_all b q (by have := unhide HP; have := unhide HQ; omega)]
    case round =>
      obtain ⟨j, hj, rfl, hiff, rfl⟩ := hrel
      by_cases h0 : 0 < j
      · obtain ⟨i, rfl⟩ : ∃ i, j = i + 1 := ⟨j - 1, by omega⟩
        have e1 : ((i + 1 : Nat) : Int) - 1 = (i : Int) := by omega
        rw [e1]
        have c0 : (0 : Int) ≤ (i : Int) := by omega
        have hda := hdg i
        have hdb := hdh i
        obtain ⟨x, hx⟩ : ∃ x, x = a.getD i 0 := ⟨_, rfl⟩
        obtain ⟨y, hy⟩ : ∃ y, y = b.getD i 0 := ⟨_, rfl⟩
        rw [← hx] at hda
        rw [← hy] at hdb
        by_cases hxy : x = y
        · have hnx : valN a < valN b ↔ preN a i < preN b i := by rw [hiff]; exact below_eq (by rw [← hx, ← hy]; exact hxy)
          have q1 : ((x : Int) == (y : Int)) = true := by simp [hxy]
          have HNX := hide hnx
          clear hiff hnx hx hy
          go_wp2_with fail
          refine hda.mono ?_
          rintro e _ ⟨rfl, rfl⟩
          go_wp2_with fail
          refine hdb.mono ?_
          rintro e _ ⟨rfl, rfl⟩
          go_wp2
          go_roundw
          case rel => exact ⟨i, by omega, by go_num, unhide HNX, trivial⟩
          case measure => simp [intOf]
        · have q1 : ((x : Int) == (y : Int)) = false := by simp; omega
          by_cases hl : x < y
          · have h1 := hiff.2 (below_lt (unhide HDA) (by rw [← hx, ← hy]; exact hl))
            have HR := hide (decide_eq_true h1)
            have q2 : (x : Int) < (y : Int) := by omega
            clear hiff hx hy h1
            go_wp2_with fail
            refine hda.mono ?_
            rintro e _ ⟨rfl, rfl⟩
            go_wp2_with fail
            refine hdb.mono ?_
            rintro e _ ⟨rfl, rfl⟩
            go_wp2_with fail
            refine hda.mono ?_
            rintro e _ ⟨rfl, rfl⟩
            go_wp2_with fail
            refine hdb.mono ?_
            rintro e _ ⟨rfl, rfl⟩
            go_wp2
            go_ret
            rw [unhide HR]
            exact ⟨rfl, rfl⟩
          · have h1 : ¬ valN a < valN b := fun h => below_gt (a := a) (b := b) (i := i) (unhide HDB) (by rw [← hx, ← hy]; omega) (hiff.1 h)
            have HR := hide (decide_eq_false h1)
            have q2 : ¬ (x : Int) < (y : Int) := by omega
            clear hiff hx hy h1
            go_wp2_with fail
            refine hda.mono ?_
            rintro e _ ⟨rfl, rfl⟩
            go_wp2_with fail
            refine hdb.mono ?_
            rintro e _ ⟨rfl, rfl⟩
            go_wp2_with fail
            refine hda.mono ?_
            rintro e _ ⟨rfl, rfl⟩
            go_wp2_with fail
            refine hdb.mono ?_
            rintro e _ ⟨rfl, rfl⟩
            go_wp2
            go_ret
            rw [unhide HR]
            exact ⟨rfl, rfl⟩
      · obtain rfl : j = 0 := by omega
        have hno : ¬ valN a < valN b := fun h => by have := hiff.1 h; rw [preN_zero, preN_zero] at this; omega
        have HR := hide (decide_eq_false hno)
        clear hiff hno
        go_wp2
        go_ret
        rw [unhide HR]
        exact ⟨rfl, rfl⟩
  · have c9 : ¬ (p : Int) < (q : Int) := by omega
    skip
    go_enter Tryd.func103, Tryd.ntmps103
    go_wp2
    go_loopw [5] (fun iv' wr => ∃ j : Nat, j ≤ p ∧ iv' = .int .i64 ((j : Int) - 1) ∧ (valN a < valN b ↔ preN a j < preN b j) ∧ wr = w) (fun iv' _ => (intOf iv' + 1).toNat)
    case atStart =>
      refine ⟨p, Nat.le_refl _, rfl, ?_, rfl⟩
      rw [preN_all a p (by have := unhide HP; have := unhide HQ; omega), preN_all b p (by have := unhide HP; have := unhide HQ; omega)]
    case round =>
      obtain ⟨j, hj, rfl, hiff, rfl⟩ := hrel
      by_cases h0 : 0 < j
      · obtain ⟨i, rfl⟩ : ∃ i, j = i + 1 := ⟨j - 1, by omega⟩
        have e1 : ((i + 1 : Nat) : Int) - 1 = (i : Int) := by omega
        rw [e1]
        have c0 : (0 : Int) ≤ (i : Int) := by omega
        have hda := hdg i
        have hdb := hdh i
        obtain ⟨x, hx⟩ : ∃ x, x = a.getD i 0 := ⟨_, rfl⟩
        obtain ⟨y, hy⟩ : ∃ y, y = b.getD i 0 := ⟨_, rfl⟩
        rw [← hx] at hda
        rw [← hy] at hdb
        by_cases hxy : x = y
        · have hnx : valN a < valN b ↔ preN a i < preN b i := by rw [hiff]; exact below_eq (by rw [← hx, ← hy]; exact hxy)
          have q1 : ((x : Int) == (y : Int)) = true := by simp [hxy]
          have HNX := hide hnx
          clear hiff hnx hx hy
          go_wp2_with fail
          refine hda.mono ?_
          rintro e _ ⟨rfl, rfl⟩
          go_wp2_with fail
          refine hdb.mono ?_
          rintro e _ ⟨rfl, rfl⟩
          go_wp2
          go_roundw
          case rel => exact ⟨i, by omega, by go_num, unhide HNX, trivial⟩
          case measure => simp [intOf]
        · have q1 : ((x : Int) == (y : Int)) = false := by simp; omega
          by_cases hl : x < y
          · have h1 := hiff.2 (below_lt (unhide HDA) (by rw [← hx, ← hy]; exact hl))
            have HR := hide (decide_eq_true h1)
            have q2 : (x : Int) < (y : Int) := by omega
            clear hiff hx hy h1
            go_wp2_with fail
            refine hda.mono ?_
            rintro e _ ⟨rfl, rfl⟩
            go_wp2_with fail
            refine hdb.mono ?_
            rintro e _ ⟨rfl, rfl⟩
            go_wp2_with fail
            refine hda.mono ?_
            rintro e _ ⟨rfl, rfl⟩
            go_wp2_with fail
            refine hdb.mono ?_
            rintro e _ ⟨rfl, rfl⟩
            go_wp2
            go_ret
            rw [unhide HR]
            exact ⟨rfl, rfl⟩
          · have h1 : ¬ valN a < valN b := fun h => below_gt (a := a) (b := b) (i := i) (unhide HDB) (by rw [← hx, ← hy]; omega) (hiff.1 h)
            have HR := hide (decide_eq_false h1)
            have q2 : ¬ (x : Int) < (y : Int) := by omega
            clear hiff hx hy h1
            go_wp2_with fail
            refine hda.mono ?_
            rintro e _ ⟨rfl, rfl⟩
            go_wp2_with fail
            refine hdb.mono ?_
            rintro e _ ⟨rfl, rfl⟩
            go_wp2_with fail
            refine hda.mono ?_
            rintro e _ ⟨rfl, rfl⟩
            go_wp2_with fail
            refine hdb.mono ?_
            rintro e _ ⟨rfl, rfl⟩
            go_wp2
            go_ret
            rw [unhide HR]
            exact ⟨rfl, rfl⟩
      · obtain rfl : j = 0 := by omega
        have hno : ¬ valN a < valN b := fun h => by have := hiff.1 h; rw [preN_zero, preN_zero] at this; omega
        have HR := hide (decide_eq_false hno)
        clear hiff hno
        go_wp2
        go_ret
        rw [unhide HR]
        exact ⟨rfl, rfl⟩

end Go.Proofs.YtjckdgapefaokaaDoor
