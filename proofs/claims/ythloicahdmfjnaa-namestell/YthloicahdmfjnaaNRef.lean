/- What the document's parts and Path (package coffretref09) answer. Of texts of at most 100000 bytes. -/
import Derived.Test.YthloicahdmfjnaaNPartR
import Derived.Test.YthloicahdmfjnaaNPath
import Derived.Deep.RegionHeld3
namespace Go.Proofs.Ythloicahdmfjnaa
open Go.RowKit

set_option maxRecDepth 100000 in
set_option maxHeartbeats 2000000 in
theorem rpath_any (w : World) (l : List UInt8) (hl : l.length ≤ 100000)
    (c1 : Calls Try.prog 18 #[.string (str l)] w fun e w' => ∃ v, e = .returned v ∧ Stg w' w.heap.size v (slashL l) ∧ w.grownBy w' none) :
    Calls Try.prog 8 #[.string (str l)] w fun e w' => ∃ v, e = .returned (.tuple #[v, .bool (pathB l)]) ∧ Stg w' w.heap.size v (pathL l) ∧ w.grownBy w' none := by
  obtain ⟨S, hS⟩ : ∃ S, S = str l := ⟨_, rfl⟩
  obtain ⟨n, hn⟩ : ∃ n, n = l.length := ⟨_, rfl⟩
  have hsz : S.size = n := by rw [hS, str_size, hn]
  by_cases hbig : n ≤ 65536
  · have hbi : ¬ (65536 : Int) < (n : Int) := by omega
    have hPB : pathB l = (slashL l).all partB := by unfold pathB; rw [← hn]; simp [hbig]
    rw [← hS] at c1 ⊢
    have hcnt := slashL_count l
    have hple := slashL_len l
    obtain ⟨L, hL⟩ : ∃ L, L = slashL l := ⟨_, rfl⟩
    rw [← hL] at c1 hPB hcnt hple
    have hpath : pathL l = if L.all partB = true then L else [] := by unfold pathL; rw [hPB, hL]
    have HL := hide hl
    have HPB := hide hPB
    have HPA := hide hpath
    have HCN := hide hcnt
    have HPL := hide hple
    clear hS hn hl hPB hpath hcnt hple hL
    go_enter Try.func8, Try.ntmps8
    go_wp2_with fail
    refine c1.mono ?_
    rintro e w1 ⟨v1, rfl, hv1, g1⟩
    clear c1
    obtain ⟨ao, c, rfl, hs1⟩ := hv1.open
    obtain ⟨q, hq⟩ : ∃ q, q = L.length := ⟨_, rfl⟩
    rw [← hq]
    have hq6 : q ≤ 1000000 := by have h1 := unhide HCN; have h2 := unhide HL; omega
    have HQ := hide hq
    have HV := hide hv1
    clear hq hv1
    go_wp2
    go_loopw [5] (fun i wr => ∃ k : Nat, k ≤ q ∧ i = .int .i64 k ∧ Hid ((L.take k).all partB = true) ∧ w1.grownBy wr none) (fun i _ => q - (intOf i).toNat)
    case atStart => exact ⟨0, Nat.zero_le _, rfl, by exact rfl, gb_refl _ _⟩
    case round =>
      obtain ⟨k, hk, rfl, hA, hg⟩ := hrel
      by_cases hlt : k < q
      · have hkL : k < L.length := by rw [← unhide HQ]; exact hlt
        have hki : (k : Int) < (q : Int) := by omega
        have HK := hide (show k + 1 ≤ q from hlt)
        have hk0 : (0 : Int) ≤ (k : Int) := by omega
        obtain ⟨b, rfl, hc⟩ := (hs1.kept hg).at k hkL
        have hxl : L[k].length ≤ 100000 := Nat.le_trans (unhide HPL _ (List.getElem_mem hkL)) (unhide HL)
        have htk : L.take (k + 1) = L.take k ++ [L[k]] := List.take_succ_eq_append_getElem hkL
        have hex : partB L[k] = false → L.all partB = false := fun h => by
          rw [← Bool.not_eq_true]
          intro h2
          have := List.all_eq_true.1 h2 _ (List.getElem_mem hkL)
          rw [h] at this
          cases this
        obtain ⟨x, hx⟩ : ∃ x, x = L[k] := ⟨_, rfl⟩
        rw [← hx] at hc hxl htk hex
        have c2 := fun V => rpart_any V x hxl
        have HT := hide htk
        have HE := hide hex
        clear hx hxl htk hex
        cases hp : partB x with
        | false =>
          rw [hp] at c2
          go_wp2_with fail
          refine (c2 _).mono ?_
          rintro e w2 ⟨rfl, g2⟩
          clear c2
          have hall := unhide HE hp
          have r1 : pathB l = false := by rw [unhide HPB]; exact hall
          have r2 : pathL l = [] := by rw [unhide HPA, hall]; rfl
          go_wp2
          go_ret2
          exact ⟨_, by rw [r1]; rfl, by rw [r2]; exact Stg.nil _ _, tn (tn g1 hg) g2⟩
        | true =>
          rw [hp] at c2
          go_wp2_with fail
          refine (c2 _).mono ?_
          rintro e w2 ⟨rfl, g2⟩
          clear c2
          have hA2 : Hid ((L.take (k + 1)).all partB = true) := by
            rw [unhide HT, List.all_append, hA.out, List.all_cons, hp]
            exact rfl
          have g12 := tn hg g2
          clear hc HT HE
          go_wp2
          go_roundw
          case rel => exact ⟨k + 1, unhide HK, by go_num, hA2, g12⟩
          case measure => have := unhide HK; simp [intOf]; omega
      · obtain rfl : k = q := by omega
        have hki : ¬ (k : Int) < (k : Int) := by omega
        have htk : L.take k = L := by rw [unhide HQ, List.take_length]
        have hall : L.all partB = true := by rw [← htk]; exact hA.out
        have r1 : pathB l = true := by rw [unhide HPB]; exact hall
        have r2 : pathL l = L := by rw [unhide HPA, hall]; rfl
        have hown : Stg wr w.heap.size (.slice ao k c) L := by have := (unhide HV).kept hg; rw [← unhide HQ] at this; exact this
        have HO := hide hown
        clear hA hall htk hown
        go_wp2
        go_ret2
        exact ⟨_, rfl, by first | exact unhide HO | (rw [r2]; exact unhide HO), tn g1 hg⟩
  · have hbi : (65536 : Int) < (n : Int) := by omega
    have r1 : pathB l = false := by unfold pathB; rw [← hn]; simp [hbig]
    have r2 : pathL l = [] := by unfold pathL; rw [r1]; rfl
    rw [r1, r2, ← hS]
    clear r1 r2 hS hn hl c1
    go_enter Try.func8, Try.ntmps8
    go_wp2
    go_ret2
    exact ⟨_, rfl, Stg.nil _ _, gb_refl _ _⟩

end Go.Proofs.Ythloicahdmfjnaa
