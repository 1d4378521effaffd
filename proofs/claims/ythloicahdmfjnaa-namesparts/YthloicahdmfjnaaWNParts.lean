/- The law NamesParts: of any two texts it answers true, and leaves them as they were. Each text is of at most 2 to the 47 bytes. -/
import Derived.Test.YthloicahdmfjnaaNPm
import Derived.Test.YthloicahdmfjnaaNOne
namespace Go.Proofs.Ythloicahdmfjnaa
open Go.RowKit

set_option maxRecDepth 100000 in
set_option maxHeartbeats 4000000 in
theorem wparts_any (w : World) (s : List UInt8) (hs : s.length ≤ 140737488355328) (m : List UInt8) (hm : m.length ≤ 140737488355328) :
    Calls Try.prog 5 #[.string (str s), .string (str m)] w fun e w' => e = .returned (.bool true) ∧ w.grownBy w' none := by
  have cone := fun V => none_any V
  obtain ⟨n, hn⟩ : ∃ n, n = s.length := ⟨_, rfl⟩
  obtain ⟨nm, hnm⟩ : ∃ n, n = m.length := ⟨_, rfl⟩
  have hsz : (str s).size = n := by rw [str_size, hn]
  have hsm : (str m).size = nm := by rw [str_size, hnm]
  obtain ⟨S, hS⟩ : ∃ A, A = str s := ⟨_, rfl⟩
  obtain ⟨M, hM⟩ : ∃ A, A = str m := ⟨_, rfl⟩
  by_cases h1 : 200 < n
  · have h1i : (200 : Int) < (n : Int) := by omega
    rw [← hS] at hsz ⊢
    clear cone hn hnm hs hm hS hM
    go_enter Try.func5, Try.ntmps5
    go_wp2
    go_ret
    exact ⟨rfl, gb_refl _ _⟩
  · have h1i : ¬ (200 : Int) < (n : Int) := by omega
    by_cases h2 : 200 < nm
    · have h2i : (200 : Int) < (nm : Int) := by omega
      rw [← hS] at hsz ⊢
      rw [← hM] at hsm ⊢
      clear cone hn hnm hs hm hS hM
      go_enter Try.func5, Try.ntmps5
      go_wp2
      go_ret
      exact ⟨rfl, gb_refl _ _⟩
    · have h2i : ¬ (200 : Int) < (nm : Int) := by omega
      have ck := fun V => kind_any V s (by omega)
      by_cases hk0 : kindL s = 0
      · simp only [hk0] at ck
        simp only [← hS] at hsz ck ⊢
        simp only [← hM] at hsm ⊢
        have CK := hide ck
        have CONE := hide cone
        clear cone hn hnm hs hm hS hM hk0 ck
        go_enter Try.func5, Try.ntmps5
        go_upto_region 3 with fail
        refine region_named fun O hO => ?_
        refine wpList_val (by rw [hO]; kernel_rfl) (.string S) (fun K9 hK9 => by go_simp; exact hK9) ?_
        (try simp only [Act.put, List.setIfInBounds_toArray, List.set_cons_zero, List.set_cons_succ])
        refine wpList_want (by rw [hO]; kernel_rfl) fun K9 hK9 => ?_
        go_simp
        go_at_call 9
        refine (unhide CK _).mono ?_
        rintro e w1 ⟨rfl, g1⟩
        refine hK9 _ _ ?_
        clear hK9 K9
        (try simp only [Act.put, List.setIfInBounds_toArray, List.set_cons_zero, List.set_cons_succ])
        refine wpList_val (by rw [hO]; kernel_rfl) (.int .i64 0) (fun K9 hK9 => by go_simp; exact hK9) ?_
        (try simp only [Act.put, List.setIfInBounds_toArray, List.set_cons_zero, List.set_cons_succ])
        go_upto_region 5 with fail
        refine region_named fun O hO => ?_
        refine wpList_want (by rw [hO]; kernel_rfl) fun K9 hK9 => ?_
        go_simp
        go_at_call 13
        refine (unhide CONE _).mono ?_
        rintro e w2 ⟨rfl, g2⟩
        refine hK9 _ _ ?_
        clear hK9 K9
        (try simp only [Act.put, List.setIfInBounds_toArray, List.set_cons_zero, List.set_cons_succ])
        refine wpList_val (by rw [hO]; kernel_rfl) (.bool true) (fun K9 hK9 => by go_simp; exact hK9) ?_
        (try simp only [Act.put, List.setIfInBounds_toArray, List.set_cons_zero, List.set_cons_succ])
        go_wp2
        go_ret
        exact ⟨rfl, tn g1 g2⟩
      · have hk1 : (kindL s == 0) = false := by simpa using hk0
        obtain ⟨hpB, hpL, hq2⟩ := kind_path s hk0
        have hn64 : n ≤ 64 := by rw [hn]; exact (kind_is s hk0).1
        have hmore := kind_more s m hk0
        have cp := fun V => path_any V s (by omega)
        simp only [hpB, hpL] at cp
        have hfst := kind_first s
        have cf : ∀ (p : List UInt8), p ∈ slashL s → ∀ V, Calls Try.prog 9 #[.string (str p)] V fun e w' => e = .returned (.int .i64 0) ∧ V.grownBy w' none := fun p hp V => by
          have := kind_any V p (by have := slashL_len s p hp; omega)
          rw [hfst p hp] at this
          exact this
        have ch := fun V => kind_any V (headsL ++ [47] ++ m) (by simp [headsL]; omega)
        have cw := fun V => kind_any V (s ++ [47] ++ m) (by simp; omega)
        have e1 : str s ++ str [47] = str (s ++ [47]) := str_app _ _
        have e2 : str (s ++ [47]) ++ str m = str (s ++ [47] ++ m) := str_app _ _
        have e3 : str (headsL ++ [47]) ++ str m = str (headsL ++ [47] ++ m) := str_app _ _
        have z1 : (str (s ++ [47])).size = n + 1 := by rw [str_size, hn]; simp
        have z2 : (str (s ++ [47] ++ m)).size = n + 1 + nm := by rw [str_size, hn, hnm]; simp; omega
        have hwl : (s ++ [47] ++ m).length = n + 1 + nm := by rw [hn, hnm]; simp; omega
        rw [hwl] at hmore
        obtain ⟨L, hL⟩ : ∃ L, L = slashL s := ⟨_, rfl⟩
        obtain ⟨kh, hkh⟩ : ∃ k, k = kindL (headsL ++ [47] ++ m) := ⟨_, rfl⟩
        obtain ⟨kw, hkw⟩ : ∃ k, k = kindL (s ++ [47] ++ m) := ⟨_, rfl⟩
        obtain ⟨ks, hks⟩ : ∃ k, k = kindL s := ⟨_, rfl⟩
        obtain ⟨S1, hS1⟩ : ∃ A, A = str (s ++ [47]) := ⟨_, rfl⟩
        obtain ⟨WI, hWI⟩ : ∃ A, A = str (s ++ [47] ++ m) := ⟨_, rfl⟩
        obtain ⟨HM, hHM⟩ : ∃ A, A = str (headsL ++ [47] ++ m) := ⟨_, rfl⟩
        obtain ⟨n1, hn1⟩ : ∃ k, k = n + 1 := ⟨_, rfl⟩
        obtain ⟨n2, hn2⟩ : ∃ k, k = n1 + nm := ⟨_, rfl⟩
        simp only [← hL] at hq2 cp cf
        simp only [← hkh, ← hkw, ← hks] at hmore
        rw [← hks] at hk1
        rw [← hn1, ← hn2] at hmore z2
        rw [← hn1] at z1
        simp only [← hkh, ← hHM] at ch
        simp only [← hkw, ← hWI] at cw
        simp only [← hks, ← hS] at ck
        simp only [← hS] at cp
        rw [← hS1] at e1 e2 z1
        rw [← hWI] at e2 z2
        rw [← hHM] at e3
        rw [← hM] at e2 e3 hsm ⊢
        rw [← hS] at e1 hsz ⊢
        have e1' : S ++ ({ data := #[47] } : ByteArray) = S1 := e1
        have e3' : ({ data := #[104, 101, 97, 100, 115, 47] } : ByteArray) ++ M = HM := e3
        have l1 : ¬ 9223372036854775807 < n1 := by omega
        have l2 : ¬ 9223372036854775807 < n1 + nm := by omega
        have l3 : ¬ 9223372036854775807 < 6 + nm := by omega
        have hn1' := hn1.symm
        have hn64i : ¬ (64 : Int) < (n : Int) := by omega
        have CONE := hide cone
        have CK := hide ck
        have CP := hide cp
        have CF := hide cf
        have CH := hide ch
        have CW := hide cw
        have HN2 := hide hn2
        clear cone ck cp cf ch cw hn hnm hs hm hS hM hL hkh hkw hks hS1 hWI hHM hn1 hn2 hfst hpB hpL hk0 e1 e3 hwl h1 h2 hn64
        go_enter Try.func5, Try.ntmps5
        go_upto_region 3 with fail
        refine region_named fun O hO => ?_
        refine wpList_val (by rw [hO]; kernel_rfl) (.string S) (fun K9 hK9 => by go_simp; exact hK9) ?_
        (try simp only [Act.put, List.setIfInBounds_toArray, List.set_cons_zero, List.set_cons_succ])
        refine wpList_want (by rw [hO]; kernel_rfl) fun K9 hK9 => ?_
        go_simp
        go_at_call 9
        refine (unhide CK _).mono ?_
        rintro e w1 ⟨rfl, g1⟩
        refine hK9 _ _ ?_
        clear hK9 K9
        (try simp only [Act.put, List.setIfInBounds_toArray, List.set_cons_zero, List.set_cons_succ])
        refine wpList_val (by rw [hO]; kernel_rfl) (.int .i64 ks) (fun K9 hK9 => by go_simp; exact hK9) ?_
        (try simp only [Act.put, List.setIfInBounds_toArray, List.set_cons_zero, List.set_cons_succ])
        go_upto_region 6 with fail
        refine region_named fun O hO => ?_
        refine wpList_val (by rw [hO]; kernel_rfl) (.string S) (fun K9 hK9 => by go_simp; exact hK9) ?_
        (try simp only [Act.put, List.setIfInBounds_toArray, List.set_cons_zero, List.set_cons_succ])
        refine wpList_want (by rw [hO]; kernel_rfl) fun K9 hK9 => ?_
        go_simp
        go_at_call 7
        refine (unhide CP _).mono ?_
        rintro e w2 ⟨v2, rfl, hv2, g2⟩
        obtain ⟨ao, c, rfl, hs2⟩ := hv2.open
        clear hv2
        have h0L : 0 < L.length := by omega
        obtain ⟨b, rfl, hc⟩ := hs2.at 0 h0L
        have cf := unhide CF L[0] (List.getElem_mem h0L)
        obtain ⟨F, hF⟩ : ∃ F, F = str L[0] := ⟨_, rfl⟩
        simp only [← hF] at hc cf
        have CF0 := hide cf
        obtain ⟨q, hq⟩ : ∃ q, q = L.length := ⟨_, rfl⟩
        rw [← hq] at hq2 ⊢
        have hq2i : ¬ (q : Int) < 2 := by omega
        have hq0 : (0 : Int) < (q : Int) := by omega
        have hq0n : 0 < q := by omega
        have hq2n : ¬ q < 2 := by omega
        have G2 := tn g1 g2
        clear hF cf hs2 hq CF
        refine hK9 _ _ ?_
        clear hK9 K9
        (try simp only [Act.put, List.setIfInBounds_toArray, List.set_cons_zero, List.set_cons_succ])
        refine wpList_val (by rw [hO]; kernel_rfl) (.tuple #[.slice (some ⟨b, 0, none⟩) q c, .bool true]) (fun K9 hK9 => by go_simp; exact hK9) ?_
        (try simp only [Act.put, List.setIfInBounds_toArray, List.set_cons_zero, List.set_cons_succ])
        refine wpList_val (by rw [hO]; kernel_rfl) (.slice (some ⟨b, 0, none⟩) q c) (fun K9 hK9 => by go_simp; exact hK9) ?_
        (try simp only [Act.put, List.setIfInBounds_toArray, List.set_cons_zero, List.set_cons_succ])
        refine wpList_val (by rw [hO]; kernel_rfl) (.bool true) (fun K9 hK9 => by go_simp; exact hK9) ?_
        (try simp only [Act.put, List.setIfInBounds_toArray, List.set_cons_zero, List.set_cons_succ])
        refine wpList_val (by rw [hO]; kernel_rfl) (.slice (some ⟨b, 0, none⟩) q c) (fun K9 hK9 => by go_simp; exact hK9) ?_
        (try simp only [Act.put, List.setIfInBounds_toArray, List.set_cons_zero, List.set_cons_succ])
        refine wpList_val (by rw [hO]; kernel_rfl) (.bool true) (fun K9 hK9 => by go_simp; exact hK9) ?_
        (try simp only [Act.put, List.setIfInBounds_toArray, List.set_cons_zero, List.set_cons_succ])
        go_upto_region 7 with fail
        refine region_named fun O hO => ?_
        refine wpList_val (by rw [hO]; kernel_rfl) (.bool true) (fun K9 hK9 => by go_simp; exact hK9) ?_
        (try simp only [Act.put, List.setIfInBounds_toArray, List.set_cons_zero, List.set_cons_succ])
        refine wpList_val (by rw [hO]; kernel_rfl) (.bool false) (fun K9 hK9 => by go_simp; exact hK9) ?_
        (try simp only [Act.put, List.setIfInBounds_toArray, List.set_cons_zero, List.set_cons_succ])
        refine wpList_val (by rw [hO]; kernel_rfl) (.bool false) (fun K9 hK9 => by go_simp; exact hK9) ?_
        (try simp only [Act.put, List.setIfInBounds_toArray, List.set_cons_zero, List.set_cons_succ])
        refine wpList_val (by rw [hO]; kernel_rfl) (.slice (some ⟨b, 0, none⟩) q c) (fun K9 hK9 => by go_simp; exact hK9) ?_
        (try simp only [Act.put, List.setIfInBounds_toArray, List.set_cons_zero, List.set_cons_succ])
        refine wpList_val (by rw [hO]; kernel_rfl) (.int .i64 (q : Int)) (fun K9 hK9 => by go_simp; exact hK9) ?_
        (try simp only [Act.put, List.setIfInBounds_toArray, List.set_cons_zero, List.set_cons_succ])
        refine wpList_val (by rw [hO]; kernel_rfl) (.bool false) (fun K9 hK9 => by go_simp; exact hK9) ?_
        (try simp only [Act.put, List.setIfInBounds_toArray, List.set_cons_zero, List.set_cons_succ])
        refine wpList_val (by rw [hO]; kernel_rfl) (.bool false) (fun K9 hK9 => by go_simp; exact hK9) ?_
        (try simp only [Act.put, List.setIfInBounds_toArray, List.set_cons_zero, List.set_cons_succ])
        refine wpList_val (by rw [hO]; kernel_rfl) (.bool false) (fun K9 hK9 => by go_simp; exact hK9) ?_
        (try simp only [Act.put, List.setIfInBounds_toArray, List.set_cons_zero, List.set_cons_succ])
        refine wpList_val (by rw [hO]; kernel_rfl) (.string S) (fun K9 hK9 => by go_simp; exact hK9) ?_
        (try simp only [Act.put, List.setIfInBounds_toArray, List.set_cons_zero, List.set_cons_succ])
        refine wpList_val (by rw [hO]; kernel_rfl) (.int .i64 (n : Int)) (fun K9 hK9 => by go_simp; exact hK9) ?_
        (try simp only [Act.put, List.setIfInBounds_toArray, List.set_cons_zero, List.set_cons_succ])
        refine wpList_val (by rw [hO]; kernel_rfl) (.bool false) (fun K9 hK9 => by go_simp; exact hK9) ?_
        (try simp only [Act.put, List.setIfInBounds_toArray, List.set_cons_zero, List.set_cons_succ])
        refine wpList_val (by rw [hO]; kernel_rfl) (.bool false) (fun K9 hK9 => by go_simp; exact hK9) ?_
        (try simp only [Act.put, List.setIfInBounds_toArray, List.set_cons_zero, List.set_cons_succ])
        refine wpList_val (by rw [hO]; kernel_rfl) (.bool false) (fun K9 hK9 => by go_simp; exact hK9) ?_
        (try simp only [Act.put, List.setIfInBounds_toArray, List.set_cons_zero, List.set_cons_succ])
        refine wpList_val (by rw [hO]; kernel_rfl) (.slice (some ⟨b, 0, none⟩) q c) (fun K9 hK9 => by go_simp; exact hK9) ?_
        (try simp only [Act.put, List.setIfInBounds_toArray, List.set_cons_zero, List.set_cons_succ])
        refine wpList_val (by rw [hO]; kernel_rfl) (.pointer (some ⟨b, 0, none⟩)) (fun K9 hK9 => by go_simp; exact hK9) ?_
        (try simp only [Act.put, List.setIfInBounds_toArray, List.set_cons_zero, List.set_cons_succ])
        refine wpList_val (by rw [hO]; kernel_rfl) (.string F) (fun K9 hK9 => by go_simp; exact hK9) ?_
        (try simp only [Act.put, List.setIfInBounds_toArray, List.set_cons_zero, List.set_cons_succ])
        refine wpList_want (by rw [hO]; kernel_rfl) fun K9 hK9 => ?_
        go_simp
        go_at_call 9
        refine (unhide CF0 _).mono ?_
        rintro e w4 ⟨rfl, g4⟩
        have G5 := tn G2 g4
        refine hK9 _ _ ?_
        clear hK9 K9
        (try simp only [Act.put, List.setIfInBounds_toArray, List.set_cons_zero, List.set_cons_succ])
        refine wpList_val (by rw [hO]; kernel_rfl) (.bool false) (fun K9 hK9 => by go_simp; exact hK9) ?_
        (try simp only [Act.put, List.setIfInBounds_toArray, List.set_cons_zero, List.set_cons_succ])
        refine wpList_val (by rw [hO]; kernel_rfl) (.bool false) (fun K9 hK9 => by go_simp; exact hK9) ?_
        (try simp only [Act.put, List.setIfInBounds_toArray, List.set_cons_zero, List.set_cons_succ])
        go_upto_region 9 with fail
        refine region_named fun O hO => ?_
        refine wpList_val (by rw [hO]; kernel_rfl) (.string S) (fun K9 hK9 => by go_simp; exact hK9) ?_
        (try simp only [Act.put, List.setIfInBounds_toArray, List.set_cons_zero, List.set_cons_succ])
        refine wpList_val (by rw [hO]; kernel_rfl) (.string S1) (fun K9 hK9 => by go_simp; exact hK9) ?_
        (try simp only [Act.put, List.setIfInBounds_toArray, List.set_cons_zero, List.set_cons_succ])
        refine wpList_val (by rw [hO]; kernel_rfl) (.string M) (fun K9 hK9 => by go_simp; exact hK9) ?_
        (try simp only [Act.put, List.setIfInBounds_toArray, List.set_cons_zero, List.set_cons_succ])
        refine wpList_val (by rw [hO]; kernel_rfl) (.string WI) (fun K9 hK9 => by go_simp; exact hK9) ?_
        (try simp only [Act.put, List.setIfInBounds_toArray, List.set_cons_zero, List.set_cons_succ])
        refine wpList_val (by rw [hO]; kernel_rfl) (.string WI) (fun K9 hK9 => by go_simp; exact hK9) ?_
        (try simp only [Act.put, List.setIfInBounds_toArray, List.set_cons_zero, List.set_cons_succ])
        by_cases hb : (kh == 1) = true ∧ n2 ≤ 64
        · have hkk := hmore.1 hb
          obtain ⟨hb1, hb2⟩ := hb
          have hb2i : (n2 : Int) ≤ 64 := by omega
          have hbe : ∀ x : Int, (x == x) = true := fun x => by simp
          clear hmore
          subst hkk
          go_upto_region 10 with fail
          refine region_named fun O hO => ?_
          refine wpList_val (by rw [hO]; kernel_rfl) (.string M) (fun K9 hK9 => by go_simp; exact hK9) ?_
          (try simp only [Act.put, List.setIfInBounds_toArray, List.set_cons_zero, List.set_cons_succ])
          refine wpList_val (by rw [hO]; kernel_rfl) (.string HM) (fun K9 hK9 => by go_simp; exact hK9) ?_
          (try simp only [Act.put, List.setIfInBounds_toArray, List.set_cons_zero, List.set_cons_succ])
          refine wpList_want (by rw [hO]; kernel_rfl) fun K9 hK9 => ?_
          go_simp
          go_at_call 9
          refine (unhide CH _).mono ?_
          rintro e w6 ⟨rfl, g6⟩
          refine hK9 _ _ ?_
          clear hK9 K9
          (try simp only [Act.put, List.setIfInBounds_toArray, List.set_cons_zero, List.set_cons_succ])
          refine wpList_val (by rw [hO]; kernel_rfl) (.bool true) (fun K9 hK9 => by go_simp; exact hK9) ?_
          (try simp only [Act.put, List.setIfInBounds_toArray, List.set_cons_zero, List.set_cons_succ])
          refine wpList_val (by rw [hO]; kernel_rfl) (.bool true) (fun K9 hK9 => by go_simp; exact hK9) ?_
          (try simp only [Act.put, List.setIfInBounds_toArray, List.set_cons_zero, List.set_cons_succ])
          refine wpList_val (by rw [hO]; kernel_rfl) (.string WI) (fun K9 hK9 => by go_simp; exact hK9) ?_
          (try simp only [Act.put, List.setIfInBounds_toArray, List.set_cons_zero, List.set_cons_succ])
          refine wpList_val (by rw [hO]; kernel_rfl) (.int .i64 (n2 : Int)) (fun K9 hK9 => by go_simp; exact hK9) ?_
          (try simp only [Act.put, List.setIfInBounds_toArray, List.set_cons_zero, List.set_cons_succ])
          refine wpList_val (by rw [hO]; kernel_rfl) (.bool true) (fun K9 hK9 => by go_simp; exact hK9) ?_
          (try simp only [Act.put, List.setIfInBounds_toArray, List.set_cons_zero, List.set_cons_succ])
          refine wpList_val (by rw [hO]; kernel_rfl) (.bool true) (fun K9 hK9 => by go_simp; exact hK9) ?_
          (try simp only [Act.put, List.setIfInBounds_toArray, List.set_cons_zero, List.set_cons_succ])
          go_upto_region 11 with fail
          refine region_named fun O hO => ?_
          refine wpList_val (by rw [hO]; kernel_rfl) (.string WI) (fun K9 hK9 => by go_simp; exact hK9) ?_
          (try simp only [Act.put, List.setIfInBounds_toArray, List.set_cons_zero, List.set_cons_succ])
          refine wpList_want (by rw [hO]; kernel_rfl) fun K9 hK9 => ?_
          go_simp
          go_at_call 9
          refine (unhide CW _).mono ?_
          rintro e w7 ⟨rfl, g7a⟩
          refine hK9 _ _ ?_
          clear hK9 K9
          (try simp only [Act.put, List.setIfInBounds_toArray, List.set_cons_zero, List.set_cons_succ])
          refine wpList_val (by rw [hO]; kernel_rfl) (.int .i64 kw) (fun K9 hK9 => by go_simp; exact hK9) ?_
          (try simp only [Act.put, List.setIfInBounds_toArray, List.set_cons_zero, List.set_cons_succ])
          refine wpList_val (by rw [hO]; kernel_rfl) (.bool true) (fun K9 hK9 => by go_simp; exact hK9) ?_
          (try simp only [Act.put, List.setIfInBounds_toArray, List.set_cons_zero, List.set_cons_succ])
          refine wpList_val (by rw [hO]; kernel_rfl) (.bool true) (fun K9 hK9 => by go_simp; exact hK9) ?_
          (try simp only [Act.put, List.setIfInBounds_toArray, List.set_cons_zero, List.set_cons_succ])
          refine wpList_want (by rw [hO]; kernel_rfl) fun K9 hK9 => ?_
          go_simp
          go_at_call 13
          refine (unhide CONE _).mono ?_
          rintro e w8 ⟨rfl, g8⟩
          have g7 := tn g7a g8
          refine hK9 _ _ ?_
          clear hK9 K9
          (try simp only [Act.put, List.setIfInBounds_toArray, List.set_cons_zero, List.set_cons_succ])
          refine wpList_val (by rw [hO]; kernel_rfl) (.bool true) (fun K9 hK9 => by go_simp; exact hK9) ?_
          (try simp only [Act.put, List.setIfInBounds_toArray, List.set_cons_zero, List.set_cons_succ])
          go_wp2
          go_ret
          exact ⟨rfl, tn G5 (tn g6 g7)⟩
        · have hkk := hmore.2 hb
          clear hmore
          subst hkk
          by_cases hb1 : (kh == 1) = true
          · have hb2 : ¬ n2 ≤ 64 := fun e => hb ⟨hb1, e⟩
            have hb2i : ¬ (n2 : Int) ≤ 64 := by omega
            clear hb
            go_upto_region 10 with fail
            refine region_named fun O hO => ?_
            refine wpList_val (by rw [hO]; kernel_rfl) (.string M) (fun K9 hK9 => by go_simp; exact hK9) ?_
            (try simp only [Act.put, List.setIfInBounds_toArray, List.set_cons_zero, List.set_cons_succ])
            refine wpList_val (by rw [hO]; kernel_rfl) (.string HM) (fun K9 hK9 => by go_simp; exact hK9) ?_
            (try simp only [Act.put, List.setIfInBounds_toArray, List.set_cons_zero, List.set_cons_succ])
            refine wpList_want (by rw [hO]; kernel_rfl) fun K9 hK9 => ?_
            go_simp
            go_at_call 9
            refine (unhide CH _).mono ?_
            rintro e w6 ⟨rfl, g6⟩
            refine hK9 _ _ ?_
            clear hK9 K9
            (try simp only [Act.put, List.setIfInBounds_toArray, List.set_cons_zero, List.set_cons_succ])
            refine wpList_val (by rw [hO]; kernel_rfl) (.bool true) (fun K9 hK9 => by go_simp; exact hK9) ?_
            (try simp only [Act.put, List.setIfInBounds_toArray, List.set_cons_zero, List.set_cons_succ])
            refine wpList_val (by rw [hO]; kernel_rfl) (.bool true) (fun K9 hK9 => by go_simp; exact hK9) ?_
            (try simp only [Act.put, List.setIfInBounds_toArray, List.set_cons_zero, List.set_cons_succ])
            refine wpList_val (by rw [hO]; kernel_rfl) (.string WI) (fun K9 hK9 => by go_simp; exact hK9) ?_
            (try simp only [Act.put, List.setIfInBounds_toArray, List.set_cons_zero, List.set_cons_succ])
            refine wpList_val (by rw [hO]; kernel_rfl) (.int .i64 (n2 : Int)) (fun K9 hK9 => by go_simp; exact hK9) ?_
            (try simp only [Act.put, List.setIfInBounds_toArray, List.set_cons_zero, List.set_cons_succ])
            refine wpList_val (by rw [hO]; kernel_rfl) (.bool false) (fun K9 hK9 => by go_simp; exact hK9) ?_
            (try simp only [Act.put, List.setIfInBounds_toArray, List.set_cons_zero, List.set_cons_succ])
            refine wpList_val (by rw [hO]; kernel_rfl) (.bool false) (fun K9 hK9 => by go_simp; exact hK9) ?_
            (try simp only [Act.put, List.setIfInBounds_toArray, List.set_cons_zero, List.set_cons_succ])
            go_upto_region 12 with fail
            refine region_named fun O hO => ?_
            refine wpList_val (by rw [hO]; kernel_rfl) (.string WI) (fun K9 hK9 => by go_simp; exact hK9) ?_
            (try simp only [Act.put, List.setIfInBounds_toArray, List.set_cons_zero, List.set_cons_succ])
            refine wpList_want (by rw [hO]; kernel_rfl) fun K9 hK9 => ?_
            go_simp
            go_at_call 9
            refine (unhide CW _).mono ?_
            rintro e w7 ⟨rfl, g7a⟩
            refine hK9 _ _ ?_
            clear hK9 K9
            (try simp only [Act.put, List.setIfInBounds_toArray, List.set_cons_zero, List.set_cons_succ])
            refine wpList_val (by rw [hO]; kernel_rfl) (.bool true) (fun K9 hK9 => by go_simp; exact hK9) ?_
            (try simp only [Act.put, List.setIfInBounds_toArray, List.set_cons_zero, List.set_cons_succ])
            refine wpList_val (by rw [hO]; kernel_rfl) (.bool true) (fun K9 hK9 => by go_simp; exact hK9) ?_
            (try simp only [Act.put, List.setIfInBounds_toArray, List.set_cons_zero, List.set_cons_succ])
            refine wpList_want (by rw [hO]; kernel_rfl) fun K9 hK9 => ?_
            go_simp
            go_at_call 13
            refine (unhide CONE _).mono ?_
            rintro e w8 ⟨rfl, g8⟩
            have g7 := tn g7a g8
            refine hK9 _ _ ?_
            clear hK9 K9
            (try simp only [Act.put, List.setIfInBounds_toArray, List.set_cons_zero, List.set_cons_succ])
            refine wpList_val (by rw [hO]; kernel_rfl) (.bool true) (fun K9 hK9 => by go_simp; exact hK9) ?_
            (try simp only [Act.put, List.setIfInBounds_toArray, List.set_cons_zero, List.set_cons_succ])
            go_wp2
            go_ret
            exact ⟨rfl, tn G5 (tn g6 g7)⟩
          · have hb1f : (kh == 1) = false := by simpa using hb1
            clear hb hb1
            go_upto_region 10 with fail
            refine region_named fun O hO => ?_
            refine wpList_val (by rw [hO]; kernel_rfl) (.string M) (fun K9 hK9 => by go_simp; exact hK9) ?_
            (try simp only [Act.put, List.setIfInBounds_toArray, List.set_cons_zero, List.set_cons_succ])
            refine wpList_val (by rw [hO]; kernel_rfl) (.string HM) (fun K9 hK9 => by go_simp; exact hK9) ?_
            (try simp only [Act.put, List.setIfInBounds_toArray, List.set_cons_zero, List.set_cons_succ])
            refine wpList_want (by rw [hO]; kernel_rfl) fun K9 hK9 => ?_
            go_simp
            go_at_call 9
            refine (unhide CH _).mono ?_
            rintro e w6 ⟨rfl, g6⟩
            refine hK9 _ _ ?_
            clear hK9 K9
            (try simp only [Act.put, List.setIfInBounds_toArray, List.set_cons_zero, List.set_cons_succ])
            refine wpList_val (by rw [hO]; kernel_rfl) (.bool false) (fun K9 hK9 => by go_simp; exact hK9) ?_
            (try simp only [Act.put, List.setIfInBounds_toArray, List.set_cons_zero, List.set_cons_succ])
            refine wpList_val (by rw [hO]; kernel_rfl) (.bool false) (fun K9 hK9 => by go_simp; exact hK9) ?_
            (try simp only [Act.put, List.setIfInBounds_toArray, List.set_cons_zero, List.set_cons_succ])
            refine wpList_skip (by rw [hO]; kernel_rfl) ?_
            (try simp only [Act.put, List.setIfInBounds_toArray, List.set_cons_zero, List.set_cons_succ])
            refine wpList_skip (by rw [hO]; kernel_rfl) ?_
            (try simp only [Act.put, List.setIfInBounds_toArray, List.set_cons_zero, List.set_cons_succ])
            refine wpList_skip (by rw [hO]; kernel_rfl) ?_
            (try simp only [Act.put, List.setIfInBounds_toArray, List.set_cons_zero, List.set_cons_succ])
            refine wpList_val (by rw [hO]; kernel_rfl) (.bool false) (fun K9 hK9 => by go_simp; exact hK9) ?_
            (try simp only [Act.put, List.setIfInBounds_toArray, List.set_cons_zero, List.set_cons_succ])
            go_upto_region 12 with fail
            refine region_named fun O hO => ?_
            refine wpList_val (by rw [hO]; kernel_rfl) (.string WI) (fun K9 hK9 => by go_simp; exact hK9) ?_
            (try simp only [Act.put, List.setIfInBounds_toArray, List.set_cons_zero, List.set_cons_succ])
            refine wpList_want (by rw [hO]; kernel_rfl) fun K9 hK9 => ?_
            go_simp
            go_at_call 9
            refine (unhide CW _).mono ?_
            rintro e w7 ⟨rfl, g7a⟩
            refine hK9 _ _ ?_
            clear hK9 K9
            (try simp only [Act.put, List.setIfInBounds_toArray, List.set_cons_zero, List.set_cons_succ])
            refine wpList_val (by rw [hO]; kernel_rfl) (.bool true) (fun K9 hK9 => by go_simp; exact hK9) ?_
            (try simp only [Act.put, List.setIfInBounds_toArray, List.set_cons_zero, List.set_cons_succ])
            refine wpList_val (by rw [hO]; kernel_rfl) (.bool true) (fun K9 hK9 => by go_simp; exact hK9) ?_
            (try simp only [Act.put, List.setIfInBounds_toArray, List.set_cons_zero, List.set_cons_succ])
            refine wpList_want (by rw [hO]; kernel_rfl) fun K9 hK9 => ?_
            go_simp
            go_at_call 13
            refine (unhide CONE _).mono ?_
            rintro e w8 ⟨rfl, g8⟩
            have g7 := tn g7a g8
            refine hK9 _ _ ?_
            clear hK9 K9
            (try simp only [Act.put, List.setIfInBounds_toArray, List.set_cons_zero, List.set_cons_succ])
            refine wpList_val (by rw [hO]; kernel_rfl) (.bool true) (fun K9 hK9 => by go_simp; exact hK9) ?_
            (try simp only [Act.put, List.setIfInBounds_toArray, List.set_cons_zero, List.set_cons_succ])
            go_wp2
            go_ret
            exact ⟨rfl, tn G5 (tn g6 g7)⟩

end Go.Proofs.Ythloicahdmfjnaa
