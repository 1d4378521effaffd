/- The law NamesTell: of any text it answers true, and leaves it as it was. The text is of at most 2 to the 47 bytes. -/
import Derived.Test.YthloicahdmfjnaaNKindR
import Derived.Test.YthloicahdmfjnaaNOne
import Derived.BigQuiet
import Derived.Deep.QuietTactic
namespace Go.Proofs.Ythloicahdmfjnaa
open Go.RowKit

set_option maxRecDepth 100000 in
set_option maxHeartbeats 4000000 in
theorem wtell_any (w : World) (l : List UInt8) (hl : l.length ≤ 140737488355328) :
    Calls Try.prog 3 #[.string (str l)] w fun e w' => e = .returned (.bool true) ∧ w.grownBy w' none := by
  have cone := fun V => none_any V
  obtain ⟨n, hn⟩ : ∃ n, n = l.length := ⟨_, rfl⟩
  obtain ⟨T, hT⟩ : ∃ T, T = l.take 3000 := ⟨_, rfl⟩
  have hTl : T.length ≤ 3000 := by rw [hT, List.length_take]; omega
  have hsz : (str l).size = n := by rw [str_size, hn]
  have hsl : 3000 < n → ∀ W, (Instr.slice 9 (.string (str l)) none (some (.int .i64 3000)) none).run Try.prog W = .ok (.string (str T)) W := fun h W => by rw [hT]; exact slice_str_to l 3000 (by omega) W
  have hlt : ¬ 3000 < n → str l = str T := fun h => by rw [hT, List.take_of_length_le (by omega)]
  have cp := fun V => path_any V T (by omega)
  have crp := fun V => rpathn_any V T (by omega)
  have ck := fun V => kind_any V T (by omega)
  have crk := fun V => rkind_any V T (by omega)
  have cq := fun V => part_any V T (by omega)
  have crq := fun V => rpart_any V T (by omega)
  obtain ⟨S, hS⟩ : ∃ A, A = str l := ⟨_, rfl⟩
  obtain ⟨X, hX⟩ : ∃ A, A = str T := ⟨_, rfl⟩
  obtain ⟨P, hP⟩ : ∃ A, A = pathL T := ⟨_, rfl⟩
  obtain ⟨pb, hpb⟩ : ∃ A, A = pathB T := ⟨_, rfl⟩
  obtain ⟨kd, hkd⟩ : ∃ A, A = kindL T := ⟨_, rfl⟩
  obtain ⟨qb, hqb⟩ : ∃ A, A = partB T := ⟨_, rfl⟩
  have hP6 : P.length ≤ 1000000 := by
    rw [hP]
    unfold pathL
    split
    · have := slashL_count T; omega
    · simp
  simp only [← hX, ← hP, ← hpb] at cp crp
  simp only [← hX, ← hkd] at ck crk
  simp only [← hX, ← hqb] at cq crq
  simp only [← hX] at hsl hlt
  simp only [← hS] at hsz hsl hlt ⊢
  have CP := hide cp
  have CRP := hide crp
  have CK := hide ck
  have CRK := hide crk
  have CQ := hide cq
  have CRQ := hide crq
  have CONE := hide cone
  have HP6 := hide hP6
  clear cp crp ck crk cq crq cone hn hT hTl hl hS hX hP hpb hkd hqb hP6
  go_enter Try.func3, Try.ntmps3
  go_upto_if 10 with fail
  go_cut [0] (fun x0 wx => x0 = .string X ∧ wx = w)
  case first =>
    by_cases h1 : 3000 < n
    · have h1i : (3000 : Int) < (n : Int) := by omega
      have sl := hsl h1
      clear hsl hlt h1
      go_wp2
      go_meet
      case rel => exact ⟨rfl, rfl⟩
    · have h1i : ¬ (3000 : Int) < (n : Int) := by omega
      have e := hlt h1
      subst e
      clear hsl h1 hlt
      go_wp2
      go_meet
      case rel => exact ⟨rfl, rfl⟩
  case rest =>
    obtain ⟨rfl, e9⟩ := hcut
    subst wc
    clear hsl hlt
    go_upto_region 3 with fail
    refine region_named fun O hO => ?_
    refine wpList_val (by rw [hO]; kernel_rfl) (.string X) (fun K9 hK9 => by go_simp; exact hK9) ?_
    (try simp only [Act.put, List.setIfInBounds_toArray, List.set_cons_zero, List.set_cons_succ])
    refine wpList_want (by rw [hO]; kernel_rfl) fun K9 hK9 => ?_
    go_simp
    go_at_call 7
    refine (unhide CP _).mono ?_
    rintro e w1 ⟨v1, rfl, hv1, g1⟩
    obtain ⟨ao1, c1, rfl, hs1⟩ := hv1.open
    clear hv1
    refine hK9 _ _ ?_
    clear hK9 K9
    (try simp only [Act.put, List.setIfInBounds_toArray, List.set_cons_zero, List.set_cons_succ])
    refine wpList_val (by rw [hO]; kernel_rfl) (.tuple #[.slice ao1 P.length c1, .bool pb]) (fun K9 hK9 => by go_simp; exact hK9) ?_
    (try simp only [Act.put, List.setIfInBounds_toArray, List.set_cons_zero, List.set_cons_succ])
    refine wpList_val (by rw [hO]; kernel_rfl) (.slice ao1 P.length c1) (fun K9 hK9 => by go_simp; exact hK9) ?_
    (try simp only [Act.put, List.setIfInBounds_toArray, List.set_cons_zero, List.set_cons_succ])
    refine wpList_val (by rw [hO]; kernel_rfl) (.bool pb) (fun K9 hK9 => by go_simp; exact hK9) ?_
    (try simp only [Act.put, List.setIfInBounds_toArray, List.set_cons_zero, List.set_cons_succ])
    refine wpList_val (by rw [hO]; kernel_rfl) (.slice ao1 P.length c1) (fun K9 hK9 => by go_simp; exact hK9) ?_
    (try simp only [Act.put, List.setIfInBounds_toArray, List.set_cons_zero, List.set_cons_succ])
    refine wpList_val (by rw [hO]; kernel_rfl) (.bool pb) (fun K9 hK9 => by go_simp; exact hK9) ?_
    (try simp only [Act.put, List.setIfInBounds_toArray, List.set_cons_zero, List.set_cons_succ])
    go_upto_region 4 with fail
    refine region_named fun O hO => ?_
    refine wpList_val (by rw [hO]; kernel_rfl) (.string X) (fun K9 hK9 => by go_simp; exact hK9) ?_
    (try simp only [Act.put, List.setIfInBounds_toArray, List.set_cons_zero, List.set_cons_succ])
    refine wpList_want (by rw [hO]; kernel_rfl) fun K9 hK9 => ?_
    go_simp
    go_at_call 8
    refine (unhide CRP _).mono ?_
    rintro e w2 ⟨v2, rfl, hv2, g2⟩
    obtain ⟨ao2, c2, rfl, hs2⟩ := hv2.open
    clear hv2
    have G2 := tn g1 g2
    replace hs1 := hs1.kept g2
    refine hK9 _ _ ?_
    clear hK9 K9
    (try simp only [Act.put, List.setIfInBounds_toArray, List.set_cons_zero, List.set_cons_succ])
    refine wpList_val (by rw [hO]; kernel_rfl) (.tuple #[.slice ao2 P.length c2, .bool pb]) (fun K9 hK9 => by go_simp; exact hK9) ?_
    (try simp only [Act.put, List.setIfInBounds_toArray, List.set_cons_zero, List.set_cons_succ])
    refine wpList_val (by rw [hO]; kernel_rfl) (.slice ao2 P.length c2) (fun K9 hK9 => by go_simp; exact hK9) ?_
    (try simp only [Act.put, List.setIfInBounds_toArray, List.set_cons_zero, List.set_cons_succ])
    refine wpList_val (by rw [hO]; kernel_rfl) (.bool pb) (fun K9 hK9 => by go_simp; exact hK9) ?_
    (try simp only [Act.put, List.setIfInBounds_toArray, List.set_cons_zero, List.set_cons_succ])
    refine wpList_val (by rw [hO]; kernel_rfl) (.slice ao2 P.length c2) (fun K9 hK9 => by go_simp; exact hK9) ?_
    (try simp only [Act.put, List.setIfInBounds_toArray, List.set_cons_zero, List.set_cons_succ])
    refine wpList_val (by rw [hO]; kernel_rfl) (.bool pb) (fun K9 hK9 => by go_simp; exact hK9) ?_
    (try simp only [Act.put, List.setIfInBounds_toArray, List.set_cons_zero, List.set_cons_succ])
    obtain ⟨q, hq⟩ : ∃ q, q = P.length := ⟨_, rfl⟩
    have hq6 : q ≤ 1000000 := by rw [hq]; exact unhide HP6
    rw [← hq]
    have HQ := hide hq
    clear hq
    go_upto_region 5 with fail
    refine region_named fun O hO => ?_
    refine wpList_val (by rw [hO]; kernel_rfl) (.bool pb) (fun K9 hK9 => by go_simp; exact hK9) ?_
    (try simp only [Act.put, List.setIfInBounds_toArray, List.set_cons_zero, List.set_cons_succ])
    refine wpList_val (by rw [hO]; kernel_rfl) (.bool pb) (fun K9 hK9 => by go_simp; exact hK9) ?_
    (try simp only [Act.put, List.setIfInBounds_toArray, List.set_cons_zero, List.set_cons_succ])
    refine wpList_val (by rw [hO]; kernel_rfl) (.bool false) (fun K9 hK9 => by go_simp; exact hK9) ?_
    (try simp only [Act.put, List.setIfInBounds_toArray, List.set_cons_zero, List.set_cons_succ])
    refine wpList_val (by rw [hO]; kernel_rfl) (.bool false) (fun K9 hK9 => by go_simp; exact hK9) ?_
    (try simp only [Act.put, List.setIfInBounds_toArray, List.set_cons_zero, List.set_cons_succ])
    refine wpList_val (by rw [hO]; kernel_rfl) (.slice ao1 q c1) (fun K9 hK9 => by go_simp; exact hK9) ?_
    (try simp only [Act.put, List.setIfInBounds_toArray, List.set_cons_zero, List.set_cons_succ])
    refine wpList_val (by rw [hO]; kernel_rfl) (.int .i64 (q : Int)) (fun K9 hK9 => by go_simp; exact hK9) ?_
    (try simp only [Act.put, List.setIfInBounds_toArray, List.set_cons_zero, List.set_cons_succ])
    refine wpList_val (by rw [hO]; kernel_rfl) (.slice ao2 q c2) (fun K9 hK9 => by go_simp; exact hK9) ?_
    (try simp only [Act.put, List.setIfInBounds_toArray, List.set_cons_zero, List.set_cons_succ])
    refine wpList_val (by rw [hO]; kernel_rfl) (.int .i64 (q : Int)) (fun K9 hK9 => by go_simp; exact hK9) ?_
    (try simp only [Act.put, List.setIfInBounds_toArray, List.set_cons_zero, List.set_cons_succ])
    refine wpList_val (by rw [hO]; kernel_rfl) (.bool false) (fun K9 hK9 => by go_simp; exact hK9) ?_
    (try simp only [Act.put, List.setIfInBounds_toArray, List.set_cons_zero, List.set_cons_succ])
    refine wpList_val (by rw [hO]; kernel_rfl) (.bool false) (fun K9 hK9 => by go_simp; exact hK9) ?_
    (try simp only [Act.put, List.setIfInBounds_toArray, List.set_cons_zero, List.set_cons_succ])
    go_wp2
    go_loopw [7] (fun i wr => ∃ k : Nat, k ≤ q ∧ i = .int .i64 k ∧ w2.grownBy wr none) (fun i _ => q - (intOf i).toNat)
    case atStart => exact ⟨0, Nat.zero_le _, rfl, gb_refl _ _⟩
    case round =>
      obtain ⟨k, hk, rfl, hg⟩ := hrel
      by_cases hlt : k < q
      · have hkL : k < P.length := by rw [← unhide HQ]; exact hlt
        have hki : (k : Int) < (q : Int) := by omega
        have HK := hide (show k + 1 ≤ q from hlt)
        have hk0 : (0 : Int) ≤ (k : Int) := by omega
        obtain ⟨b1, rfl, hc1⟩ := (hs1.kept hg).at k hkL
        obtain ⟨b2, rfl, hc2⟩ := (hs2.kept hg).at k hkL
        obtain ⟨x, hx⟩ : ∃ x, x = str P[k] := ⟨_, rfl⟩
        rw [← hx] at hc1 hc2
        have hxe : (x.toList != x.toList) = false := by simp
        clear hx
        go_wp2
        go_quiet (fail)
        go_wp2
        go_roundw
        case rel => exact ⟨k + 1, unhide HK, by go_num, by first | exact gb_drewN hg _ | exact gb_drew hg⟩
        case measure => have := unhide HK; simp [intOf]; omega
      · obtain rfl : k = q := by omega
        have hki : ¬ (k : Int) < (k : Int) := by omega
        have G3 := tn G2 hg
        go_upto_region 12 with fail
        refine region_named fun O hO => ?_
        refine wpList_val (by rw [hO]; kernel_rfl) (.string X) (fun K9 hK9 => by go_simp; exact hK9) ?_
        (try simp only [Act.put, List.setIfInBounds_toArray, List.set_cons_zero, List.set_cons_succ])
        refine wpList_want (by rw [hO]; kernel_rfl) fun K9 hK9 => ?_
        go_simp
        go_at_call 9
        refine (unhide CK _).mono ?_
        rintro e w4 ⟨rfl, g4⟩
        refine hK9 _ _ ?_
        clear hK9 K9
        (try simp only [Act.put, List.setIfInBounds_toArray, List.set_cons_zero, List.set_cons_succ])
        refine wpList_val (by rw [hO]; kernel_rfl) (.string X) (fun K9 hK9 => by go_simp; exact hK9) ?_
        (try simp only [Act.put, List.setIfInBounds_toArray, List.set_cons_zero, List.set_cons_succ])
        refine wpList_want (by rw [hO]; kernel_rfl) fun K9 hK9 => ?_
        go_simp
        go_at_call 10
        refine (unhide CRK _).mono ?_
        rintro e w5 ⟨rfl, g5⟩
        refine hK9 _ _ ?_
        clear hK9 K9
        (try simp only [Act.put, List.setIfInBounds_toArray, List.set_cons_zero, List.set_cons_succ])
        refine wpList_val (by rw [hO]; kernel_rfl) (.bool true) (fun K9 hK9 => by go_simp; exact hK9) ?_
        (try simp only [Act.put, List.setIfInBounds_toArray, List.set_cons_zero, List.set_cons_succ])
        refine wpList_val (by rw [hO]; kernel_rfl) (.bool true) (fun K9 hK9 => by go_simp; exact hK9) ?_
        (try simp only [Act.put, List.setIfInBounds_toArray, List.set_cons_zero, List.set_cons_succ])
        refine wpList_val (by rw [hO]; kernel_rfl) (.string X) (fun K9 hK9 => by go_simp; exact hK9) ?_
        (try simp only [Act.put, List.setIfInBounds_toArray, List.set_cons_zero, List.set_cons_succ])
        refine wpList_want (by rw [hO]; kernel_rfl) fun K9 hK9 => ?_
        go_simp
        go_at_call 11
        refine (unhide CQ _).mono ?_
        rintro e w6 ⟨rfl, g6⟩
        refine hK9 _ _ ?_
        clear hK9 K9
        (try simp only [Act.put, List.setIfInBounds_toArray, List.set_cons_zero, List.set_cons_succ])
        refine wpList_val (by rw [hO]; kernel_rfl) (.string X) (fun K9 hK9 => by go_simp; exact hK9) ?_
        (try simp only [Act.put, List.setIfInBounds_toArray, List.set_cons_zero, List.set_cons_succ])
        refine wpList_want (by rw [hO]; kernel_rfl) fun K9 hK9 => ?_
        go_simp
        go_at_call 12
        refine (unhide CRQ _).mono ?_
        rintro e w7 ⟨rfl, g7⟩
        have G7 := tn (tn (tn (tn G3 g4) g5) g6) g7
        refine hK9 _ _ ?_
        clear hK9 K9
        (try simp only [Act.put, List.setIfInBounds_toArray, List.set_cons_zero, List.set_cons_succ])
        refine wpList_val (by rw [hO]; kernel_rfl) (.bool true) (fun K9 hK9 => by go_simp; exact hK9) ?_
        (try simp only [Act.put, List.setIfInBounds_toArray, List.set_cons_zero, List.set_cons_succ])
        refine wpList_val (by rw [hO]; kernel_rfl) (.bool true) (fun K9 hK9 => by go_simp; exact hK9) ?_
        (try simp only [Act.put, List.setIfInBounds_toArray, List.set_cons_zero, List.set_cons_succ])
        refine wpList_val (by rw [hO]; kernel_rfl) (.bool true) (fun K9 hK9 => by go_simp; exact hK9) ?_
        (try simp only [Act.put, List.setIfInBounds_toArray, List.set_cons_zero, List.set_cons_succ])
        refine wpList_want (by rw [hO]; kernel_rfl) fun K9 hK9 => ?_
        go_simp
        go_at_call 13
        refine (unhide CONE _).mono ?_
        rintro e w8 ⟨rfl, g8⟩
        refine hK9 _ _ ?_
        clear hK9 K9
        (try simp only [Act.put, List.setIfInBounds_toArray, List.set_cons_zero, List.set_cons_succ])
        refine wpList_val (by rw [hO]; kernel_rfl) (.bool true) (fun K9 hK9 => by go_simp; exact hK9) ?_
        (try simp only [Act.put, List.setIfInBounds_toArray, List.set_cons_zero, List.set_cons_succ])
        go_wp2
        go_ret
        exact ⟨rfl, tn G7 g8⟩

end Go.Proofs.Ythloicahdmfjnaa
