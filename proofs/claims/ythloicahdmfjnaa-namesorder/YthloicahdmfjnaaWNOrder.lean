/- The law NamesOrder: of any three texts it answers true, and leaves them as they were. Each text is of at most 2 to the 47 bytes. -/
import Derived.Test.YthloicahdmfjnaaNLess
import Derived.Test.YthloicahdmfjnaaNOne
namespace Go.Proofs.Ythloicahdmfjnaa
open Go.RowKit

set_option maxRecDepth 100000 in
set_option maxHeartbeats 4000000 in
theorem worder_any (w : World) (a : List UInt8) (ha : a.length ≤ 140737488355328) (b : List UInt8) (hb : b.length ≤ 140737488355328) (m : List UInt8) (hm : m.length ≤ 140737488355328) :
    Calls Try.prog 6 #[.string (str a), .string (str b), .string (str m)] w fun e w' => e = .returned (.bool true) ∧ w.grownBy w' none := by
  have cab := fun V => nless_any V a b
  have cba := fun V => nless_any V b a
  have caa := fun V => nless_any V a a
  simp only [lessL_irr] at caa
  have cmm := fun V => nless_any V (m ++ a) (m ++ b)
  simp only [lessL_ahead] at cmm
  have cam := fun V => nless_any V a (a ++ m)
  simp only [lessL_more] at cam
  have cone := fun V => none_any V
  obtain ⟨na, hna⟩ : ∃ n, n = a.length := ⟨_, rfl⟩
  obtain ⟨nb, hnb⟩ : ∃ n, n = b.length := ⟨_, rfl⟩
  obtain ⟨nm, hnm⟩ : ∃ n, n = m.length := ⟨_, rfl⟩
  have hsa : (str a).size = na := by rw [str_size, hna]
  have hsb : (str b).size = nb := by rw [str_size, hnb]
  have hsm : (str m).size = nm := by rw [str_size, hnm]
  have hwr : IntKind.i64.wrap ((na : Int) + (nb : Int)) = (na : Int) + (nb : Int) := by rw [IntKind.wrap_i64]; omega
  have hasy := lessL_asymm a b
  have htot := lessL_total a b
  have hirr := lessL_irr a
  have hp1 : str m ++ str a = str (m ++ a) := str_app m a
  have hp2 : str m ++ str b = str (m ++ b) := str_app m b
  have hp3 : str a ++ str m = str (a ++ m) := str_app a m
  by_cases h1 : 3000 < na + nb
  · have h1i : (3000 : Int) < (na : Int) + (nb : Int) := by omega
    obtain ⟨A, hA⟩ : ∃ A, A = str a := ⟨_, rfl⟩
    obtain ⟨B, hB⟩ : ∃ A, A = str b := ⟨_, rfl⟩
    rw [← hA] at hsa ⊢
    rw [← hB] at hsb ⊢
    clear cab cba caa cmm cam cone hna hnb hnm hasy htot ha hb hm hA hB hp1 hp2 hp3 hirr
    go_enter Try.func6, Try.ntmps6
    go_wp2
    go_ret
    exact ⟨rfl, gb_refl _ _⟩
  · have h1i : ¬ (3000 : Int) < (na : Int) + (nb : Int) := by omega
    by_cases h2 : 1000 < nm
    · have h2i : (1000 : Int) < (nm : Int) := by omega
      obtain ⟨A, hA⟩ : ∃ A, A = str a := ⟨_, rfl⟩
      obtain ⟨B, hB⟩ : ∃ A, A = str b := ⟨_, rfl⟩
      obtain ⟨M, hM⟩ : ∃ A, A = str m := ⟨_, rfl⟩
      rw [← hA] at hsa ⊢
      rw [← hB] at hsb ⊢
      rw [← hM] at hsm ⊢
      clear cab cba caa cmm cam cone hna hnb hnm hasy htot ha hb hm hA hB hM hp1 hp2 hp3 hirr
      go_enter Try.func6, Try.ntmps6
      go_wp2
      go_ret
      exact ⟨rfl, gb_refl _ _⟩
    · have h2i : ¬ (1000 : Int) < (nm : Int) := by omega
      have hl1 : ¬ 9223372036854775807 < nm + na := by omega
      have hl2 : ¬ 9223372036854775807 < nm + nb := by omega
      have hl3 : ¬ 9223372036854775807 < na + nm := by omega
      cases he : (m == []) with
      | true =>
        have hme : m = [] := by simpa using he
        cases hx : lessL a b with
        | true =>
          have hy := hasy hx
          have hab : ¬ a = b := fun e => by rw [e] at hx; rw [lessL_irr] at hx; cases hx
          simp only [hx] at cab cmm
          simp only [he] at cam
          simp only [hy] at cba
          obtain ⟨A, hA⟩ : ∃ A, A = str a := ⟨_, rfl⟩
          obtain ⟨B, hB⟩ : ∃ A, A = str b := ⟨_, rfl⟩
          obtain ⟨M, hM⟩ : ∃ A, A = str m := ⟨_, rfl⟩
          obtain ⟨MA, hMA⟩ : ∃ A, A = str (m ++ a) := ⟨_, rfl⟩
          obtain ⟨AM, hAM⟩ : ∃ A, A = str (a ++ m) := ⟨_, rfl⟩
          obtain ⟨MB, hMB⟩ : ∃ A, A = str (m ++ b) := ⟨_, rfl⟩
          obtain ⟨LM, hLM⟩ : ∃ L, L = (str m).toList := ⟨_, rfl⟩
          have hTM := hLM.symm
          rw [str_list] at hLM
          rw [hme] at hLM
          obtain ⟨LA, hLA⟩ : ∃ L, L = (str a).toList := ⟨_, rfl⟩
          obtain ⟨LB, hLB⟩ : ∃ L, L = (str b).toList := ⟨_, rfl⟩
          have hTA := hLA.symm
          have hTB := hLB.symm
          have hn3 : ¬ LA = LB := by rw [hLA, hLB, str_list, str_list]; exact hab
          have hn4 : (LA == LB) = false := by simpa using hn3
          have hn5 : (LA != LB) = true := by simpa using hn3
          clear hLA hLB
          simp only [← hMA, ← hAM, ← hMB] at cmm cam hp1 hp2 hp3
          simp only [← hA, ← hB, ← hM] at cab cba caa cam hsa hsb hsm hp1 hp2 hp3 hTM ⊢
          simp only [← hA, ← hB] at hTA hTB
          clear hna hnb hnm hasy htot ha hb hm hA hM hme hirr hMA hAM hx hy he hB hMB hab
          have CAB := hide cab
          have CBA := hide cba
          have CAA := hide caa
          have CMM := hide cmm
          have CAM := hide cam
          have CONE := hide cone
          clear cab cba caa cmm cam cone
          go_enter Try.func6, Try.ntmps6
          go_upto_region 3 with fail
          refine region_named fun O hO => ?_
          refine wpList_val (by rw [hO]; kernel_rfl) (.string A) (fun K9 hK9 => by go_simp; exact hK9) ?_
          (try simp only [Act.put, List.setIfInBounds_toArray, List.set_cons_zero, List.set_cons_succ])
          refine wpList_val (by rw [hO]; kernel_rfl) (.string B) (fun K9 hK9 => by go_simp; exact hK9) ?_
          (try simp only [Act.put, List.setIfInBounds_toArray, List.set_cons_zero, List.set_cons_succ])
          refine wpList_want (by rw [hO]; kernel_rfl) fun K9 hK9 => ?_
          go_simp
          go_at_call 14
          refine (unhide CAB _).mono ?_
          rintro e w1 ⟨rfl, hw1⟩
          subst w1
          refine hK9 _ _ ?_
          clear hK9 K9
          (try simp only [Act.put, List.setIfInBounds_toArray, List.set_cons_zero, List.set_cons_succ])
          refine wpList_val (by rw [hO]; kernel_rfl) (.string B) (fun K9 hK9 => by go_simp; exact hK9) ?_
          (try simp only [Act.put, List.setIfInBounds_toArray, List.set_cons_zero, List.set_cons_succ])
          refine wpList_val (by rw [hO]; kernel_rfl) (.string A) (fun K9 hK9 => by go_simp; exact hK9) ?_
          (try simp only [Act.put, List.setIfInBounds_toArray, List.set_cons_zero, List.set_cons_succ])
          refine wpList_want (by rw [hO]; kernel_rfl) fun K9 hK9 => ?_
          go_simp
          go_at_call 14
          refine (unhide CBA _).mono ?_
          rintro e w1 ⟨rfl, hw1⟩
          subst w1
          refine hK9 _ _ ?_
          clear hK9 K9
          (try simp only [Act.put, List.setIfInBounds_toArray, List.set_cons_zero, List.set_cons_succ])
          refine wpList_val (by rw [hO]; kernel_rfl) (.bool true) (fun K9 hK9 => by go_simp; exact hK9) ?_
          (try simp only [Act.put, List.setIfInBounds_toArray, List.set_cons_zero, List.set_cons_succ])
          refine wpList_val (by rw [hO]; kernel_rfl) (.bool false) (fun K9 hK9 => by go_simp; exact hK9) ?_
          (try simp only [Act.put, List.setIfInBounds_toArray, List.set_cons_zero, List.set_cons_succ])
          go_upto_region 4 with fail
          refine region_named fun O hO => ?_
          refine wpList_val (by rw [hO]; kernel_rfl) (.bool true) (fun K9 hK9 => by go_simp; exact hK9) ?_
          (try simp only [Act.put, List.setIfInBounds_toArray, List.set_cons_zero, List.set_cons_succ])
          refine wpList_val (by rw [hO]; kernel_rfl) (.bool true) (fun K9 hK9 => by go_simp; exact hK9) ?_
          (try simp only [Act.put, List.setIfInBounds_toArray, List.set_cons_zero, List.set_cons_succ])
          refine wpList_val (by rw [hO]; kernel_rfl) (.bool false) (fun K9 hK9 => by go_simp; exact hK9) ?_
          (try simp only [Act.put, List.setIfInBounds_toArray, List.set_cons_zero, List.set_cons_succ])
          refine wpList_val (by rw [hO]; kernel_rfl) (.bool false) (fun K9 hK9 => by go_simp; exact hK9) ?_
          (try simp only [Act.put, List.setIfInBounds_toArray, List.set_cons_zero, List.set_cons_succ])
          refine wpList_val (by rw [hO]; kernel_rfl) (.bool false) (fun K9 hK9 => by go_simp; exact hK9) ?_
          (try simp only [Act.put, List.setIfInBounds_toArray, List.set_cons_zero, List.set_cons_succ])
          refine wpList_val (by rw [hO]; kernel_rfl) (.bool true) (fun K9 hK9 => by go_simp; exact hK9) ?_
          (try simp only [Act.put, List.setIfInBounds_toArray, List.set_cons_zero, List.set_cons_succ])
          refine wpList_val (by rw [hO]; kernel_rfl) (.bool true) (fun K9 hK9 => by go_simp; exact hK9) ?_
          (try simp only [Act.put, List.setIfInBounds_toArray, List.set_cons_zero, List.set_cons_succ])
          refine wpList_skip (by rw [hO]; kernel_rfl) ?_
          (try simp only [Act.put, List.setIfInBounds_toArray, List.set_cons_zero, List.set_cons_succ])
          refine wpList_val (by rw [hO]; kernel_rfl) (.bool true) (fun K9 hK9 => by go_simp; exact hK9) ?_
          (try simp only [Act.put, List.setIfInBounds_toArray, List.set_cons_zero, List.set_cons_succ])
          refine wpList_val (by rw [hO]; kernel_rfl) (.string A) (fun K9 hK9 => by go_simp; exact hK9) ?_
          (try simp only [Act.put, List.setIfInBounds_toArray, List.set_cons_zero, List.set_cons_succ])
          refine wpList_val (by rw [hO]; kernel_rfl) (.string B) (fun K9 hK9 => by go_simp; exact hK9) ?_
          (try simp only [Act.put, List.setIfInBounds_toArray, List.set_cons_zero, List.set_cons_succ])
          refine wpList_val (by rw [hO]; kernel_rfl) (.bool true) (fun K9 hK9 => by go_simp; exact hK9) ?_
          (try simp only [Act.put, List.setIfInBounds_toArray, List.set_cons_zero, List.set_cons_succ])
          refine wpList_val (by rw [hO]; kernel_rfl) (.bool false) (fun K9 hK9 => by go_simp; exact hK9) ?_
          (try simp only [Act.put, List.setIfInBounds_toArray, List.set_cons_zero, List.set_cons_succ])
          refine wpList_val (by rw [hO]; kernel_rfl) (.bool false) (fun K9 hK9 => by go_simp; exact hK9) ?_
          (try simp only [Act.put, List.setIfInBounds_toArray, List.set_cons_zero, List.set_cons_succ])
          refine wpList_val (by rw [hO]; kernel_rfl) (.bool false) (fun K9 hK9 => by go_simp; exact hK9) ?_
          (try simp only [Act.put, List.setIfInBounds_toArray, List.set_cons_zero, List.set_cons_succ])
          refine wpList_val (by rw [hO]; kernel_rfl) (.string A) (fun K9 hK9 => by go_simp; exact hK9) ?_
          (try simp only [Act.put, List.setIfInBounds_toArray, List.set_cons_zero, List.set_cons_succ])
          refine wpList_val (by rw [hO]; kernel_rfl) (.string A) (fun K9 hK9 => by go_simp; exact hK9) ?_
          (try simp only [Act.put, List.setIfInBounds_toArray, List.set_cons_zero, List.set_cons_succ])
          refine wpList_want (by rw [hO]; kernel_rfl) fun K9 hK9 => ?_
          go_simp
          go_at_call 14
          refine (unhide CAA _).mono ?_
          rintro e w1 ⟨rfl, hw1⟩
          subst w1
          refine hK9 _ _ ?_
          clear hK9 K9
          (try simp only [Act.put, List.setIfInBounds_toArray, List.set_cons_zero, List.set_cons_succ])
          refine wpList_val (by rw [hO]; kernel_rfl) (.bool false) (fun K9 hK9 => by go_simp; exact hK9) ?_
          (try simp only [Act.put, List.setIfInBounds_toArray, List.set_cons_zero, List.set_cons_succ])
          go_upto_region 6 with fail
          refine region_named fun O hO => ?_
          refine wpList_val (by rw [hO]; kernel_rfl) (.string M) (fun K9 hK9 => by go_simp; exact hK9) ?_
          (try simp only [Act.put, List.setIfInBounds_toArray, List.set_cons_zero, List.set_cons_succ])
          refine wpList_val (by rw [hO]; kernel_rfl) (.string A) (fun K9 hK9 => by go_simp; exact hK9) ?_
          (try simp only [Act.put, List.setIfInBounds_toArray, List.set_cons_zero, List.set_cons_succ])
          refine wpList_val (by rw [hO]; kernel_rfl) (.string MA) (fun K9 hK9 => by go_simp; exact hK9) ?_
          (try simp only [Act.put, List.setIfInBounds_toArray, List.set_cons_zero, List.set_cons_succ])
          refine wpList_val (by rw [hO]; kernel_rfl) (.string M) (fun K9 hK9 => by go_simp; exact hK9) ?_
          (try simp only [Act.put, List.setIfInBounds_toArray, List.set_cons_zero, List.set_cons_succ])
          refine wpList_val (by rw [hO]; kernel_rfl) (.string B) (fun K9 hK9 => by go_simp; exact hK9) ?_
          (try simp only [Act.put, List.setIfInBounds_toArray, List.set_cons_zero, List.set_cons_succ])
          refine wpList_val (by rw [hO]; kernel_rfl) (.string MB) (fun K9 hK9 => by go_simp; exact hK9) ?_
          (try simp only [Act.put, List.setIfInBounds_toArray, List.set_cons_zero, List.set_cons_succ])
          refine wpList_want (by rw [hO]; kernel_rfl) fun K9 hK9 => ?_
          go_simp
          go_at_call 14
          refine (unhide CMM _).mono ?_
          rintro e w1 ⟨rfl, hw1⟩
          subst w1
          refine hK9 _ _ ?_
          clear hK9 K9
          (try simp only [Act.put, List.setIfInBounds_toArray, List.set_cons_zero, List.set_cons_succ])
          refine wpList_val (by rw [hO]; kernel_rfl) (.bool true) (fun K9 hK9 => by go_simp; exact hK9) ?_
          (try simp only [Act.put, List.setIfInBounds_toArray, List.set_cons_zero, List.set_cons_succ])
          refine wpList_val (by rw [hO]; kernel_rfl) (.bool true) (fun K9 hK9 => by go_simp; exact hK9) ?_
          (try simp only [Act.put, List.setIfInBounds_toArray, List.set_cons_zero, List.set_cons_succ])
          refine wpList_val (by rw [hO]; kernel_rfl) (.bool true) (fun K9 hK9 => by go_simp; exact hK9) ?_
          (try simp only [Act.put, List.setIfInBounds_toArray, List.set_cons_zero, List.set_cons_succ])
          refine wpList_val (by rw [hO]; kernel_rfl) (.string A) (fun K9 hK9 => by go_simp; exact hK9) ?_
          (try simp only [Act.put, List.setIfInBounds_toArray, List.set_cons_zero, List.set_cons_succ])
          refine wpList_val (by rw [hO]; kernel_rfl) (.string A) (fun K9 hK9 => by go_simp; exact hK9) ?_
          (try simp only [Act.put, List.setIfInBounds_toArray, List.set_cons_zero, List.set_cons_succ])
          refine wpList_val (by rw [hO]; kernel_rfl) (.string M) (fun K9 hK9 => by go_simp; exact hK9) ?_
          (try simp only [Act.put, List.setIfInBounds_toArray, List.set_cons_zero, List.set_cons_succ])
          refine wpList_val (by rw [hO]; kernel_rfl) (.string AM) (fun K9 hK9 => by go_simp; exact hK9) ?_
          (try simp only [Act.put, List.setIfInBounds_toArray, List.set_cons_zero, List.set_cons_succ])
          refine wpList_want (by rw [hO]; kernel_rfl) fun K9 hK9 => ?_
          go_simp
          go_at_call 14
          refine (unhide CAM _).mono ?_
          rintro e w1 ⟨rfl, hw1⟩
          subst w1
          refine hK9 _ _ ?_
          clear hK9 K9
          (try simp only [Act.put, List.setIfInBounds_toArray, List.set_cons_zero, List.set_cons_succ])
          refine wpList_val (by rw [hO]; kernel_rfl) (.string M) (fun K9 hK9 => by go_simp; exact hK9) ?_
          (try simp only [Act.put, List.setIfInBounds_toArray, List.set_cons_zero, List.set_cons_succ])
          refine wpList_val (by rw [hO]; kernel_rfl) (.bool false) (fun K9 hK9 => by go_simp; exact hK9) ?_
          (try simp only [Act.put, List.setIfInBounds_toArray, List.set_cons_zero, List.set_cons_succ])
          refine wpList_val (by rw [hO]; kernel_rfl) (.bool true) (fun K9 hK9 => by go_simp; exact hK9) ?_
          (try simp only [Act.put, List.setIfInBounds_toArray, List.set_cons_zero, List.set_cons_succ])
          refine wpList_val (by rw [hO]; kernel_rfl) (.bool true) (fun K9 hK9 => by go_simp; exact hK9) ?_
          (try simp only [Act.put, List.setIfInBounds_toArray, List.set_cons_zero, List.set_cons_succ])
          refine wpList_val (by rw [hO]; kernel_rfl) (.bool true) (fun K9 hK9 => by go_simp; exact hK9) ?_
          (try simp only [Act.put, List.setIfInBounds_toArray, List.set_cons_zero, List.set_cons_succ])
          refine wpList_want (by rw [hO]; kernel_rfl) fun K9 hK9 => ?_
          go_simp
          go_at_call 13
          refine (unhide CONE _).mono ?_
          rintro e w3 ⟨rfl, g3⟩
          refine hK9 _ _ ?_
          clear hK9 K9
          (try simp only [Act.put, List.setIfInBounds_toArray, List.set_cons_zero, List.set_cons_succ])
          refine wpList_val (by rw [hO]; kernel_rfl) (.bool true) (fun K9 hK9 => by go_simp; exact hK9) ?_
          (try simp only [Act.put, List.setIfInBounds_toArray, List.set_cons_zero, List.set_cons_succ])
          go_wp2
          go_ret
          exact ⟨rfl, g3⟩
        | false =>
          cases hy : lessL b a with
          | true =>
            have hab : ¬ a = b := fun e => by rw [e] at hy; rw [lessL_irr] at hy; cases hy
            simp only [hx] at cab cmm
            simp only [he] at cam
            simp only [hy] at cba
            obtain ⟨A, hA⟩ : ∃ A, A = str a := ⟨_, rfl⟩
            obtain ⟨B, hB⟩ : ∃ A, A = str b := ⟨_, rfl⟩
            obtain ⟨M, hM⟩ : ∃ A, A = str m := ⟨_, rfl⟩
            obtain ⟨MA, hMA⟩ : ∃ A, A = str (m ++ a) := ⟨_, rfl⟩
            obtain ⟨AM, hAM⟩ : ∃ A, A = str (a ++ m) := ⟨_, rfl⟩
            obtain ⟨MB, hMB⟩ : ∃ A, A = str (m ++ b) := ⟨_, rfl⟩
            obtain ⟨LM, hLM⟩ : ∃ L, L = (str m).toList := ⟨_, rfl⟩
            have hTM := hLM.symm
            rw [str_list] at hLM
            rw [hme] at hLM
            obtain ⟨LA, hLA⟩ : ∃ L, L = (str a).toList := ⟨_, rfl⟩
            obtain ⟨LB, hLB⟩ : ∃ L, L = (str b).toList := ⟨_, rfl⟩
            have hTA := hLA.symm
            have hTB := hLB.symm
            have hn3 : ¬ LA = LB := by rw [hLA, hLB, str_list, str_list]; exact hab
            have hn4 : (LA == LB) = false := by simpa using hn3
            have hn5 : (LA != LB) = true := by simpa using hn3
            clear hLA hLB
            simp only [← hMA, ← hAM, ← hMB] at cmm cam hp1 hp2 hp3
            simp only [← hA, ← hB, ← hM] at cab cba caa cam hsa hsb hsm hp1 hp2 hp3 hTM ⊢
            simp only [← hA, ← hB] at hTA hTB
            clear hna hnb hnm hasy htot ha hb hm hA hM hme hirr hMA hAM hx hy he hB hMB hab
            have CAB := hide cab
            have CBA := hide cba
            have CAA := hide caa
            have CMM := hide cmm
            have CAM := hide cam
            have CONE := hide cone
            clear cab cba caa cmm cam cone
            go_enter Try.func6, Try.ntmps6
            go_upto_region 3 with fail
            refine region_named fun O hO => ?_
            refine wpList_val (by rw [hO]; kernel_rfl) (.string A) (fun K9 hK9 => by go_simp; exact hK9) ?_
            (try simp only [Act.put, List.setIfInBounds_toArray, List.set_cons_zero, List.set_cons_succ])
            refine wpList_val (by rw [hO]; kernel_rfl) (.string B) (fun K9 hK9 => by go_simp; exact hK9) ?_
            (try simp only [Act.put, List.setIfInBounds_toArray, List.set_cons_zero, List.set_cons_succ])
            refine wpList_want (by rw [hO]; kernel_rfl) fun K9 hK9 => ?_
            go_simp
            go_at_call 14
            refine (unhide CAB _).mono ?_
            rintro e w1 ⟨rfl, hw1⟩
            subst w1
            refine hK9 _ _ ?_
            clear hK9 K9
            (try simp only [Act.put, List.setIfInBounds_toArray, List.set_cons_zero, List.set_cons_succ])
            refine wpList_val (by rw [hO]; kernel_rfl) (.string B) (fun K9 hK9 => by go_simp; exact hK9) ?_
            (try simp only [Act.put, List.setIfInBounds_toArray, List.set_cons_zero, List.set_cons_succ])
            refine wpList_val (by rw [hO]; kernel_rfl) (.string A) (fun K9 hK9 => by go_simp; exact hK9) ?_
            (try simp only [Act.put, List.setIfInBounds_toArray, List.set_cons_zero, List.set_cons_succ])
            refine wpList_want (by rw [hO]; kernel_rfl) fun K9 hK9 => ?_
            go_simp
            go_at_call 14
            refine (unhide CBA _).mono ?_
            rintro e w1 ⟨rfl, hw1⟩
            subst w1
            refine hK9 _ _ ?_
            clear hK9 K9
            (try simp only [Act.put, List.setIfInBounds_toArray, List.set_cons_zero, List.set_cons_succ])
            refine wpList_val (by rw [hO]; kernel_rfl) (.bool false) (fun K9 hK9 => by go_simp; exact hK9) ?_
            (try simp only [Act.put, List.setIfInBounds_toArray, List.set_cons_zero, List.set_cons_succ])
            refine wpList_val (by rw [hO]; kernel_rfl) (.bool true) (fun K9 hK9 => by go_simp; exact hK9) ?_
            (try simp only [Act.put, List.setIfInBounds_toArray, List.set_cons_zero, List.set_cons_succ])
            go_upto_region 4 with fail
            refine region_named fun O hO => ?_
            refine wpList_val (by rw [hO]; kernel_rfl) (.bool false) (fun K9 hK9 => by go_simp; exact hK9) ?_
            (try simp only [Act.put, List.setIfInBounds_toArray, List.set_cons_zero, List.set_cons_succ])
            refine wpList_val (by rw [hO]; kernel_rfl) (.bool false) (fun K9 hK9 => by go_simp; exact hK9) ?_
            (try simp only [Act.put, List.setIfInBounds_toArray, List.set_cons_zero, List.set_cons_succ])
            refine wpList_skip (by rw [hO]; kernel_rfl) ?_
            (try simp only [Act.put, List.setIfInBounds_toArray, List.set_cons_zero, List.set_cons_succ])
            refine wpList_val (by rw [hO]; kernel_rfl) (.bool false) (fun K9 hK9 => by go_simp; exact hK9) ?_
            (try simp only [Act.put, List.setIfInBounds_toArray, List.set_cons_zero, List.set_cons_succ])
            refine wpList_val (by rw [hO]; kernel_rfl) (.bool false) (fun K9 hK9 => by go_simp; exact hK9) ?_
            (try simp only [Act.put, List.setIfInBounds_toArray, List.set_cons_zero, List.set_cons_succ])
            refine wpList_val (by rw [hO]; kernel_rfl) (.bool false) (fun K9 hK9 => by go_simp; exact hK9) ?_
            (try simp only [Act.put, List.setIfInBounds_toArray, List.set_cons_zero, List.set_cons_succ])
            refine wpList_val (by rw [hO]; kernel_rfl) (.bool false) (fun K9 hK9 => by go_simp; exact hK9) ?_
            (try simp only [Act.put, List.setIfInBounds_toArray, List.set_cons_zero, List.set_cons_succ])
            refine wpList_val (by rw [hO]; kernel_rfl) (.bool true) (fun K9 hK9 => by go_simp; exact hK9) ?_
            (try simp only [Act.put, List.setIfInBounds_toArray, List.set_cons_zero, List.set_cons_succ])
            refine wpList_val (by rw [hO]; kernel_rfl) (.bool true) (fun K9 hK9 => by go_simp; exact hK9) ?_
            (try simp only [Act.put, List.setIfInBounds_toArray, List.set_cons_zero, List.set_cons_succ])
            refine wpList_val (by rw [hO]; kernel_rfl) (.string A) (fun K9 hK9 => by go_simp; exact hK9) ?_
            (try simp only [Act.put, List.setIfInBounds_toArray, List.set_cons_zero, List.set_cons_succ])
            refine wpList_val (by rw [hO]; kernel_rfl) (.string B) (fun K9 hK9 => by go_simp; exact hK9) ?_
            (try simp only [Act.put, List.setIfInBounds_toArray, List.set_cons_zero, List.set_cons_succ])
            refine wpList_val (by rw [hO]; kernel_rfl) (.bool true) (fun K9 hK9 => by go_simp; exact hK9) ?_
            (try simp only [Act.put, List.setIfInBounds_toArray, List.set_cons_zero, List.set_cons_succ])
            refine wpList_val (by rw [hO]; kernel_rfl) (.bool false) (fun K9 hK9 => by go_simp; exact hK9) ?_
            (try simp only [Act.put, List.setIfInBounds_toArray, List.set_cons_zero, List.set_cons_succ])
            refine wpList_val (by rw [hO]; kernel_rfl) (.bool false) (fun K9 hK9 => by go_simp; exact hK9) ?_
            (try simp only [Act.put, List.setIfInBounds_toArray, List.set_cons_zero, List.set_cons_succ])
            refine wpList_val (by rw [hO]; kernel_rfl) (.bool false) (fun K9 hK9 => by go_simp; exact hK9) ?_
            (try simp only [Act.put, List.setIfInBounds_toArray, List.set_cons_zero, List.set_cons_succ])
            refine wpList_val (by rw [hO]; kernel_rfl) (.string A) (fun K9 hK9 => by go_simp; exact hK9) ?_
            (try simp only [Act.put, List.setIfInBounds_toArray, List.set_cons_zero, List.set_cons_succ])
            refine wpList_val (by rw [hO]; kernel_rfl) (.string A) (fun K9 hK9 => by go_simp; exact hK9) ?_
            (try simp only [Act.put, List.setIfInBounds_toArray, List.set_cons_zero, List.set_cons_succ])
            refine wpList_want (by rw [hO]; kernel_rfl) fun K9 hK9 => ?_
            go_simp
            go_at_call 14
            refine (unhide CAA _).mono ?_
            rintro e w1 ⟨rfl, hw1⟩
            subst w1
            refine hK9 _ _ ?_
            clear hK9 K9
            (try simp only [Act.put, List.setIfInBounds_toArray, List.set_cons_zero, List.set_cons_succ])
            refine wpList_val (by rw [hO]; kernel_rfl) (.bool false) (fun K9 hK9 => by go_simp; exact hK9) ?_
            (try simp only [Act.put, List.setIfInBounds_toArray, List.set_cons_zero, List.set_cons_succ])
            go_upto_region 6 with fail
            refine region_named fun O hO => ?_
            refine wpList_val (by rw [hO]; kernel_rfl) (.string M) (fun K9 hK9 => by go_simp; exact hK9) ?_
            (try simp only [Act.put, List.setIfInBounds_toArray, List.set_cons_zero, List.set_cons_succ])
            refine wpList_val (by rw [hO]; kernel_rfl) (.string A) (fun K9 hK9 => by go_simp; exact hK9) ?_
            (try simp only [Act.put, List.setIfInBounds_toArray, List.set_cons_zero, List.set_cons_succ])
            refine wpList_val (by rw [hO]; kernel_rfl) (.string MA) (fun K9 hK9 => by go_simp; exact hK9) ?_
            (try simp only [Act.put, List.setIfInBounds_toArray, List.set_cons_zero, List.set_cons_succ])
            refine wpList_val (by rw [hO]; kernel_rfl) (.string M) (fun K9 hK9 => by go_simp; exact hK9) ?_
            (try simp only [Act.put, List.setIfInBounds_toArray, List.set_cons_zero, List.set_cons_succ])
            refine wpList_val (by rw [hO]; kernel_rfl) (.string B) (fun K9 hK9 => by go_simp; exact hK9) ?_
            (try simp only [Act.put, List.setIfInBounds_toArray, List.set_cons_zero, List.set_cons_succ])
            refine wpList_val (by rw [hO]; kernel_rfl) (.string MB) (fun K9 hK9 => by go_simp; exact hK9) ?_
            (try simp only [Act.put, List.setIfInBounds_toArray, List.set_cons_zero, List.set_cons_succ])
            refine wpList_want (by rw [hO]; kernel_rfl) fun K9 hK9 => ?_
            go_simp
            go_at_call 14
            refine (unhide CMM _).mono ?_
            rintro e w1 ⟨rfl, hw1⟩
            subst w1
            refine hK9 _ _ ?_
            clear hK9 K9
            (try simp only [Act.put, List.setIfInBounds_toArray, List.set_cons_zero, List.set_cons_succ])
            refine wpList_val (by rw [hO]; kernel_rfl) (.bool false) (fun K9 hK9 => by go_simp; exact hK9) ?_
            (try simp only [Act.put, List.setIfInBounds_toArray, List.set_cons_zero, List.set_cons_succ])
            refine wpList_val (by rw [hO]; kernel_rfl) (.bool true) (fun K9 hK9 => by go_simp; exact hK9) ?_
            (try simp only [Act.put, List.setIfInBounds_toArray, List.set_cons_zero, List.set_cons_succ])
            refine wpList_val (by rw [hO]; kernel_rfl) (.bool true) (fun K9 hK9 => by go_simp; exact hK9) ?_
            (try simp only [Act.put, List.setIfInBounds_toArray, List.set_cons_zero, List.set_cons_succ])
            refine wpList_val (by rw [hO]; kernel_rfl) (.string A) (fun K9 hK9 => by go_simp; exact hK9) ?_
            (try simp only [Act.put, List.setIfInBounds_toArray, List.set_cons_zero, List.set_cons_succ])
            refine wpList_val (by rw [hO]; kernel_rfl) (.string A) (fun K9 hK9 => by go_simp; exact hK9) ?_
            (try simp only [Act.put, List.setIfInBounds_toArray, List.set_cons_zero, List.set_cons_succ])
            refine wpList_val (by rw [hO]; kernel_rfl) (.string M) (fun K9 hK9 => by go_simp; exact hK9) ?_
            (try simp only [Act.put, List.setIfInBounds_toArray, List.set_cons_zero, List.set_cons_succ])
            refine wpList_val (by rw [hO]; kernel_rfl) (.string AM) (fun K9 hK9 => by go_simp; exact hK9) ?_
            (try simp only [Act.put, List.setIfInBounds_toArray, List.set_cons_zero, List.set_cons_succ])
            refine wpList_want (by rw [hO]; kernel_rfl) fun K9 hK9 => ?_
            go_simp
            go_at_call 14
            refine (unhide CAM _).mono ?_
            rintro e w1 ⟨rfl, hw1⟩
            subst w1
            refine hK9 _ _ ?_
            clear hK9 K9
            (try simp only [Act.put, List.setIfInBounds_toArray, List.set_cons_zero, List.set_cons_succ])
            refine wpList_val (by rw [hO]; kernel_rfl) (.string M) (fun K9 hK9 => by go_simp; exact hK9) ?_
            (try simp only [Act.put, List.setIfInBounds_toArray, List.set_cons_zero, List.set_cons_succ])
            refine wpList_val (by rw [hO]; kernel_rfl) (.bool false) (fun K9 hK9 => by go_simp; exact hK9) ?_
            (try simp only [Act.put, List.setIfInBounds_toArray, List.set_cons_zero, List.set_cons_succ])
            refine wpList_val (by rw [hO]; kernel_rfl) (.bool true) (fun K9 hK9 => by go_simp; exact hK9) ?_
            (try simp only [Act.put, List.setIfInBounds_toArray, List.set_cons_zero, List.set_cons_succ])
            refine wpList_val (by rw [hO]; kernel_rfl) (.bool true) (fun K9 hK9 => by go_simp; exact hK9) ?_
            (try simp only [Act.put, List.setIfInBounds_toArray, List.set_cons_zero, List.set_cons_succ])
            refine wpList_val (by rw [hO]; kernel_rfl) (.bool true) (fun K9 hK9 => by go_simp; exact hK9) ?_
            (try simp only [Act.put, List.setIfInBounds_toArray, List.set_cons_zero, List.set_cons_succ])
            refine wpList_want (by rw [hO]; kernel_rfl) fun K9 hK9 => ?_
            go_simp
            go_at_call 13
            refine (unhide CONE _).mono ?_
            rintro e w3 ⟨rfl, g3⟩
            refine hK9 _ _ ?_
            clear hK9 K9
            (try simp only [Act.put, List.setIfInBounds_toArray, List.set_cons_zero, List.set_cons_succ])
            refine wpList_val (by rw [hO]; kernel_rfl) (.bool true) (fun K9 hK9 => by go_simp; exact hK9) ?_
            (try simp only [Act.put, List.setIfInBounds_toArray, List.set_cons_zero, List.set_cons_succ])
            go_wp2
            go_ret
            exact ⟨rfl, g3⟩
          | false =>
            obtain rfl := htot hx hy
            simp only [hx] at cab cmm
            simp only [he] at cam
            have cba := cab
            obtain ⟨A, hA⟩ : ∃ A, A = str a := ⟨_, rfl⟩
            obtain ⟨M, hM⟩ : ∃ A, A = str m := ⟨_, rfl⟩
            obtain ⟨MA, hMA⟩ : ∃ A, A = str (m ++ a) := ⟨_, rfl⟩
            obtain ⟨AM, hAM⟩ : ∃ A, A = str (a ++ m) := ⟨_, rfl⟩
            obtain ⟨LM, hLM⟩ : ∃ L, L = (str m).toList := ⟨_, rfl⟩
            have hTM := hLM.symm
            rw [str_list] at hLM
            rw [hme] at hLM
            simp only [← hMA, ← hAM] at cmm cam hp1 hp2 hp3
            simp only [← hA, ← hM] at cab cba caa cam hsa hsb hsm hp1 hp2 hp3 hTM ⊢
            clear hna hnb hnm hasy htot ha hb hm hA hM hme hirr hMA hAM hx hy he
            have CAB := hide cab
            have CBA := hide cba
            have CAA := hide caa
            have CMM := hide cmm
            have CAM := hide cam
            have CONE := hide cone
            clear cab cba caa cmm cam cone
            go_enter Try.func6, Try.ntmps6
            go_upto_region 3 with fail
            refine region_named fun O hO => ?_
            refine wpList_val (by rw [hO]; kernel_rfl) (.string A) (fun K9 hK9 => by go_simp; exact hK9) ?_
            (try simp only [Act.put, List.setIfInBounds_toArray, List.set_cons_zero, List.set_cons_succ])
            refine wpList_val (by rw [hO]; kernel_rfl) (.string A) (fun K9 hK9 => by go_simp; exact hK9) ?_
            (try simp only [Act.put, List.setIfInBounds_toArray, List.set_cons_zero, List.set_cons_succ])
            refine wpList_want (by rw [hO]; kernel_rfl) fun K9 hK9 => ?_
            go_simp
            go_at_call 14
            refine (unhide CAB _).mono ?_
            rintro e w1 ⟨rfl, hw1⟩
            subst w1
            refine hK9 _ _ ?_
            clear hK9 K9
            (try simp only [Act.put, List.setIfInBounds_toArray, List.set_cons_zero, List.set_cons_succ])
            refine wpList_val (by rw [hO]; kernel_rfl) (.string A) (fun K9 hK9 => by go_simp; exact hK9) ?_
            (try simp only [Act.put, List.setIfInBounds_toArray, List.set_cons_zero, List.set_cons_succ])
            refine wpList_val (by rw [hO]; kernel_rfl) (.string A) (fun K9 hK9 => by go_simp; exact hK9) ?_
            (try simp only [Act.put, List.setIfInBounds_toArray, List.set_cons_zero, List.set_cons_succ])
            refine wpList_want (by rw [hO]; kernel_rfl) fun K9 hK9 => ?_
            go_simp
            go_at_call 14
            refine (unhide CBA _).mono ?_
            rintro e w1 ⟨rfl, hw1⟩
            subst w1
            refine hK9 _ _ ?_
            clear hK9 K9
            (try simp only [Act.put, List.setIfInBounds_toArray, List.set_cons_zero, List.set_cons_succ])
            refine wpList_val (by rw [hO]; kernel_rfl) (.bool false) (fun K9 hK9 => by go_simp; exact hK9) ?_
            (try simp only [Act.put, List.setIfInBounds_toArray, List.set_cons_zero, List.set_cons_succ])
            refine wpList_val (by rw [hO]; kernel_rfl) (.bool false) (fun K9 hK9 => by go_simp; exact hK9) ?_
            (try simp only [Act.put, List.setIfInBounds_toArray, List.set_cons_zero, List.set_cons_succ])
            go_upto_region 4 with fail
            refine region_named fun O hO => ?_
            refine wpList_val (by rw [hO]; kernel_rfl) (.bool false) (fun K9 hK9 => by go_simp; exact hK9) ?_
            (try simp only [Act.put, List.setIfInBounds_toArray, List.set_cons_zero, List.set_cons_succ])
            refine wpList_val (by rw [hO]; kernel_rfl) (.bool false) (fun K9 hK9 => by go_simp; exact hK9) ?_
            (try simp only [Act.put, List.setIfInBounds_toArray, List.set_cons_zero, List.set_cons_succ])
            refine wpList_skip (by rw [hO]; kernel_rfl) ?_
            (try simp only [Act.put, List.setIfInBounds_toArray, List.set_cons_zero, List.set_cons_succ])
            refine wpList_val (by rw [hO]; kernel_rfl) (.bool false) (fun K9 hK9 => by go_simp; exact hK9) ?_
            (try simp only [Act.put, List.setIfInBounds_toArray, List.set_cons_zero, List.set_cons_succ])
            refine wpList_val (by rw [hO]; kernel_rfl) (.bool false) (fun K9 hK9 => by go_simp; exact hK9) ?_
            (try simp only [Act.put, List.setIfInBounds_toArray, List.set_cons_zero, List.set_cons_succ])
            refine wpList_val (by rw [hO]; kernel_rfl) (.bool false) (fun K9 hK9 => by go_simp; exact hK9) ?_
            (try simp only [Act.put, List.setIfInBounds_toArray, List.set_cons_zero, List.set_cons_succ])
            refine wpList_val (by rw [hO]; kernel_rfl) (.bool false) (fun K9 hK9 => by go_simp; exact hK9) ?_
            (try simp only [Act.put, List.setIfInBounds_toArray, List.set_cons_zero, List.set_cons_succ])
            refine wpList_val (by rw [hO]; kernel_rfl) (.bool false) (fun K9 hK9 => by go_simp; exact hK9) ?_
            (try simp only [Act.put, List.setIfInBounds_toArray, List.set_cons_zero, List.set_cons_succ])
            refine wpList_val (by rw [hO]; kernel_rfl) (.bool false) (fun K9 hK9 => by go_simp; exact hK9) ?_
            (try simp only [Act.put, List.setIfInBounds_toArray, List.set_cons_zero, List.set_cons_succ])
            refine wpList_val (by rw [hO]; kernel_rfl) (.string A) (fun K9 hK9 => by go_simp; exact hK9) ?_
            (try simp only [Act.put, List.setIfInBounds_toArray, List.set_cons_zero, List.set_cons_succ])
            refine wpList_val (by rw [hO]; kernel_rfl) (.string A) (fun K9 hK9 => by go_simp; exact hK9) ?_
            (try simp only [Act.put, List.setIfInBounds_toArray, List.set_cons_zero, List.set_cons_succ])
            refine wpList_val (by rw [hO]; kernel_rfl) (.bool false) (fun K9 hK9 => by go_simp; exact hK9) ?_
            (try simp only [Act.put, List.setIfInBounds_toArray, List.set_cons_zero, List.set_cons_succ])
            refine wpList_val (by rw [hO]; kernel_rfl) (.bool false) (fun K9 hK9 => by go_simp; exact hK9) ?_
            (try simp only [Act.put, List.setIfInBounds_toArray, List.set_cons_zero, List.set_cons_succ])
            refine wpList_val (by rw [hO]; kernel_rfl) (.bool false) (fun K9 hK9 => by go_simp; exact hK9) ?_
            (try simp only [Act.put, List.setIfInBounds_toArray, List.set_cons_zero, List.set_cons_succ])
            refine wpList_val (by rw [hO]; kernel_rfl) (.bool false) (fun K9 hK9 => by go_simp; exact hK9) ?_
            (try simp only [Act.put, List.setIfInBounds_toArray, List.set_cons_zero, List.set_cons_succ])
            refine wpList_val (by rw [hO]; kernel_rfl) (.string A) (fun K9 hK9 => by go_simp; exact hK9) ?_
            (try simp only [Act.put, List.setIfInBounds_toArray, List.set_cons_zero, List.set_cons_succ])
            refine wpList_val (by rw [hO]; kernel_rfl) (.string A) (fun K9 hK9 => by go_simp; exact hK9) ?_
            (try simp only [Act.put, List.setIfInBounds_toArray, List.set_cons_zero, List.set_cons_succ])
            refine wpList_want (by rw [hO]; kernel_rfl) fun K9 hK9 => ?_
            go_simp
            go_at_call 14
            refine (unhide CAA _).mono ?_
            rintro e w1 ⟨rfl, hw1⟩
            subst w1
            refine hK9 _ _ ?_
            clear hK9 K9
            (try simp only [Act.put, List.setIfInBounds_toArray, List.set_cons_zero, List.set_cons_succ])
            refine wpList_val (by rw [hO]; kernel_rfl) (.bool false) (fun K9 hK9 => by go_simp; exact hK9) ?_
            (try simp only [Act.put, List.setIfInBounds_toArray, List.set_cons_zero, List.set_cons_succ])
            go_upto_region 6 with fail
            refine region_named fun O hO => ?_
            refine wpList_val (by rw [hO]; kernel_rfl) (.string M) (fun K9 hK9 => by go_simp; exact hK9) ?_
            (try simp only [Act.put, List.setIfInBounds_toArray, List.set_cons_zero, List.set_cons_succ])
            refine wpList_val (by rw [hO]; kernel_rfl) (.string A) (fun K9 hK9 => by go_simp; exact hK9) ?_
            (try simp only [Act.put, List.setIfInBounds_toArray, List.set_cons_zero, List.set_cons_succ])
            refine wpList_val (by rw [hO]; kernel_rfl) (.string MA) (fun K9 hK9 => by go_simp; exact hK9) ?_
            (try simp only [Act.put, List.setIfInBounds_toArray, List.set_cons_zero, List.set_cons_succ])
            refine wpList_val (by rw [hO]; kernel_rfl) (.string M) (fun K9 hK9 => by go_simp; exact hK9) ?_
            (try simp only [Act.put, List.setIfInBounds_toArray, List.set_cons_zero, List.set_cons_succ])
            refine wpList_val (by rw [hO]; kernel_rfl) (.string A) (fun K9 hK9 => by go_simp; exact hK9) ?_
            (try simp only [Act.put, List.setIfInBounds_toArray, List.set_cons_zero, List.set_cons_succ])
            refine wpList_val (by rw [hO]; kernel_rfl) (.string MA) (fun K9 hK9 => by go_simp; exact hK9) ?_
            (try simp only [Act.put, List.setIfInBounds_toArray, List.set_cons_zero, List.set_cons_succ])
            refine wpList_want (by rw [hO]; kernel_rfl) fun K9 hK9 => ?_
            go_simp
            go_at_call 14
            refine (unhide CMM _).mono ?_
            rintro e w1 ⟨rfl, hw1⟩
            subst w1
            refine hK9 _ _ ?_
            clear hK9 K9
            (try simp only [Act.put, List.setIfInBounds_toArray, List.set_cons_zero, List.set_cons_succ])
            refine wpList_val (by rw [hO]; kernel_rfl) (.bool false) (fun K9 hK9 => by go_simp; exact hK9) ?_
            (try simp only [Act.put, List.setIfInBounds_toArray, List.set_cons_zero, List.set_cons_succ])
            refine wpList_val (by rw [hO]; kernel_rfl) (.bool true) (fun K9 hK9 => by go_simp; exact hK9) ?_
            (try simp only [Act.put, List.setIfInBounds_toArray, List.set_cons_zero, List.set_cons_succ])
            refine wpList_val (by rw [hO]; kernel_rfl) (.bool true) (fun K9 hK9 => by go_simp; exact hK9) ?_
            (try simp only [Act.put, List.setIfInBounds_toArray, List.set_cons_zero, List.set_cons_succ])
            refine wpList_val (by rw [hO]; kernel_rfl) (.string A) (fun K9 hK9 => by go_simp; exact hK9) ?_
            (try simp only [Act.put, List.setIfInBounds_toArray, List.set_cons_zero, List.set_cons_succ])
            refine wpList_val (by rw [hO]; kernel_rfl) (.string A) (fun K9 hK9 => by go_simp; exact hK9) ?_
            (try simp only [Act.put, List.setIfInBounds_toArray, List.set_cons_zero, List.set_cons_succ])
            refine wpList_val (by rw [hO]; kernel_rfl) (.string M) (fun K9 hK9 => by go_simp; exact hK9) ?_
            (try simp only [Act.put, List.setIfInBounds_toArray, List.set_cons_zero, List.set_cons_succ])
            refine wpList_val (by rw [hO]; kernel_rfl) (.string AM) (fun K9 hK9 => by go_simp; exact hK9) ?_
            (try simp only [Act.put, List.setIfInBounds_toArray, List.set_cons_zero, List.set_cons_succ])
            refine wpList_want (by rw [hO]; kernel_rfl) fun K9 hK9 => ?_
            go_simp
            go_at_call 14
            refine (unhide CAM _).mono ?_
            rintro e w1 ⟨rfl, hw1⟩
            subst w1
            refine hK9 _ _ ?_
            clear hK9 K9
            (try simp only [Act.put, List.setIfInBounds_toArray, List.set_cons_zero, List.set_cons_succ])
            refine wpList_val (by rw [hO]; kernel_rfl) (.string M) (fun K9 hK9 => by go_simp; exact hK9) ?_
            (try simp only [Act.put, List.setIfInBounds_toArray, List.set_cons_zero, List.set_cons_succ])
            refine wpList_val (by rw [hO]; kernel_rfl) (.bool false) (fun K9 hK9 => by go_simp; exact hK9) ?_
            (try simp only [Act.put, List.setIfInBounds_toArray, List.set_cons_zero, List.set_cons_succ])
            refine wpList_val (by rw [hO]; kernel_rfl) (.bool true) (fun K9 hK9 => by go_simp; exact hK9) ?_
            (try simp only [Act.put, List.setIfInBounds_toArray, List.set_cons_zero, List.set_cons_succ])
            refine wpList_val (by rw [hO]; kernel_rfl) (.bool true) (fun K9 hK9 => by go_simp; exact hK9) ?_
            (try simp only [Act.put, List.setIfInBounds_toArray, List.set_cons_zero, List.set_cons_succ])
            refine wpList_val (by rw [hO]; kernel_rfl) (.bool true) (fun K9 hK9 => by go_simp; exact hK9) ?_
            (try simp only [Act.put, List.setIfInBounds_toArray, List.set_cons_zero, List.set_cons_succ])
            refine wpList_want (by rw [hO]; kernel_rfl) fun K9 hK9 => ?_
            go_simp
            go_at_call 13
            refine (unhide CONE _).mono ?_
            rintro e w3 ⟨rfl, g3⟩
            refine hK9 _ _ ?_
            clear hK9 K9
            (try simp only [Act.put, List.setIfInBounds_toArray, List.set_cons_zero, List.set_cons_succ])
            refine wpList_val (by rw [hO]; kernel_rfl) (.bool true) (fun K9 hK9 => by go_simp; exact hK9) ?_
            (try simp only [Act.put, List.setIfInBounds_toArray, List.set_cons_zero, List.set_cons_succ])
            go_wp2
            go_ret
            exact ⟨rfl, g3⟩
      | false =>
        have hme : ¬ m = [] := by simpa using he
        cases hx : lessL a b with
        | true =>
          have hy := hasy hx
          have hab : ¬ a = b := fun e => by rw [e] at hx; rw [lessL_irr] at hx; cases hx
          simp only [hx] at cab cmm
          simp only [he] at cam
          simp only [hy] at cba
          obtain ⟨A, hA⟩ : ∃ A, A = str a := ⟨_, rfl⟩
          obtain ⟨B, hB⟩ : ∃ A, A = str b := ⟨_, rfl⟩
          obtain ⟨M, hM⟩ : ∃ A, A = str m := ⟨_, rfl⟩
          obtain ⟨MA, hMA⟩ : ∃ A, A = str (m ++ a) := ⟨_, rfl⟩
          obtain ⟨AM, hAM⟩ : ∃ A, A = str (a ++ m) := ⟨_, rfl⟩
          obtain ⟨MB, hMB⟩ : ∃ A, A = str (m ++ b) := ⟨_, rfl⟩
          obtain ⟨LM, hLM⟩ : ∃ L, L = (str m).toList := ⟨_, rfl⟩
          have hTM := hLM.symm
          rw [str_list] at hLM
          have hn1 : ¬ LM = [] := by rw [hLM]; exact hme
          have hn2 : LM.isEmpty = false := by simpa using hn1
          obtain ⟨LA, hLA⟩ : ∃ L, L = (str a).toList := ⟨_, rfl⟩
          obtain ⟨LB, hLB⟩ : ∃ L, L = (str b).toList := ⟨_, rfl⟩
          have hTA := hLA.symm
          have hTB := hLB.symm
          have hn3 : ¬ LA = LB := by rw [hLA, hLB, str_list, str_list]; exact hab
          have hn4 : (LA == LB) = false := by simpa using hn3
          have hn5 : (LA != LB) = true := by simpa using hn3
          clear hLA hLB
          simp only [← hMA, ← hAM, ← hMB] at cmm cam hp1 hp2 hp3
          simp only [← hA, ← hB, ← hM] at cab cba caa cam hsa hsb hsm hp1 hp2 hp3 hTM ⊢
          simp only [← hA, ← hB] at hTA hTB
          clear hLM
          clear hna hnb hnm hasy htot ha hb hm hA hM hme hirr hMA hAM hx hy he hB hMB hab
          have CAB := hide cab
          have CBA := hide cba
          have CAA := hide caa
          have CMM := hide cmm
          have CAM := hide cam
          have CONE := hide cone
          clear cab cba caa cmm cam cone
          go_enter Try.func6, Try.ntmps6
          go_upto_region 3 with fail
          refine region_named fun O hO => ?_
          refine wpList_val (by rw [hO]; kernel_rfl) (.string A) (fun K9 hK9 => by go_simp; exact hK9) ?_
          (try simp only [Act.put, List.setIfInBounds_toArray, List.set_cons_zero, List.set_cons_succ])
          refine wpList_val (by rw [hO]; kernel_rfl) (.string B) (fun K9 hK9 => by go_simp; exact hK9) ?_
          (try simp only [Act.put, List.setIfInBounds_toArray, List.set_cons_zero, List.set_cons_succ])
          refine wpList_want (by rw [hO]; kernel_rfl) fun K9 hK9 => ?_
          go_simp
          go_at_call 14
          refine (unhide CAB _).mono ?_
          rintro e w1 ⟨rfl, hw1⟩
          subst w1
          refine hK9 _ _ ?_
          clear hK9 K9
          (try simp only [Act.put, List.setIfInBounds_toArray, List.set_cons_zero, List.set_cons_succ])
          refine wpList_val (by rw [hO]; kernel_rfl) (.string B) (fun K9 hK9 => by go_simp; exact hK9) ?_
          (try simp only [Act.put, List.setIfInBounds_toArray, List.set_cons_zero, List.set_cons_succ])
          refine wpList_val (by rw [hO]; kernel_rfl) (.string A) (fun K9 hK9 => by go_simp; exact hK9) ?_
          (try simp only [Act.put, List.setIfInBounds_toArray, List.set_cons_zero, List.set_cons_succ])
          refine wpList_want (by rw [hO]; kernel_rfl) fun K9 hK9 => ?_
          go_simp
          go_at_call 14
          refine (unhide CBA _).mono ?_
          rintro e w1 ⟨rfl, hw1⟩
          subst w1
          refine hK9 _ _ ?_
          clear hK9 K9
          (try simp only [Act.put, List.setIfInBounds_toArray, List.set_cons_zero, List.set_cons_succ])
          refine wpList_val (by rw [hO]; kernel_rfl) (.bool true) (fun K9 hK9 => by go_simp; exact hK9) ?_
          (try simp only [Act.put, List.setIfInBounds_toArray, List.set_cons_zero, List.set_cons_succ])
          refine wpList_val (by rw [hO]; kernel_rfl) (.bool false) (fun K9 hK9 => by go_simp; exact hK9) ?_
          (try simp only [Act.put, List.setIfInBounds_toArray, List.set_cons_zero, List.set_cons_succ])
          go_upto_region 4 with fail
          refine region_named fun O hO => ?_
          refine wpList_val (by rw [hO]; kernel_rfl) (.bool true) (fun K9 hK9 => by go_simp; exact hK9) ?_
          (try simp only [Act.put, List.setIfInBounds_toArray, List.set_cons_zero, List.set_cons_succ])
          refine wpList_val (by rw [hO]; kernel_rfl) (.bool true) (fun K9 hK9 => by go_simp; exact hK9) ?_
          (try simp only [Act.put, List.setIfInBounds_toArray, List.set_cons_zero, List.set_cons_succ])
          refine wpList_val (by rw [hO]; kernel_rfl) (.bool false) (fun K9 hK9 => by go_simp; exact hK9) ?_
          (try simp only [Act.put, List.setIfInBounds_toArray, List.set_cons_zero, List.set_cons_succ])
          refine wpList_val (by rw [hO]; kernel_rfl) (.bool false) (fun K9 hK9 => by go_simp; exact hK9) ?_
          (try simp only [Act.put, List.setIfInBounds_toArray, List.set_cons_zero, List.set_cons_succ])
          refine wpList_val (by rw [hO]; kernel_rfl) (.bool false) (fun K9 hK9 => by go_simp; exact hK9) ?_
          (try simp only [Act.put, List.setIfInBounds_toArray, List.set_cons_zero, List.set_cons_succ])
          refine wpList_val (by rw [hO]; kernel_rfl) (.bool true) (fun K9 hK9 => by go_simp; exact hK9) ?_
          (try simp only [Act.put, List.setIfInBounds_toArray, List.set_cons_zero, List.set_cons_succ])
          refine wpList_val (by rw [hO]; kernel_rfl) (.bool true) (fun K9 hK9 => by go_simp; exact hK9) ?_
          (try simp only [Act.put, List.setIfInBounds_toArray, List.set_cons_zero, List.set_cons_succ])
          refine wpList_skip (by rw [hO]; kernel_rfl) ?_
          (try simp only [Act.put, List.setIfInBounds_toArray, List.set_cons_zero, List.set_cons_succ])
          refine wpList_val (by rw [hO]; kernel_rfl) (.bool true) (fun K9 hK9 => by go_simp; exact hK9) ?_
          (try simp only [Act.put, List.setIfInBounds_toArray, List.set_cons_zero, List.set_cons_succ])
          refine wpList_val (by rw [hO]; kernel_rfl) (.string A) (fun K9 hK9 => by go_simp; exact hK9) ?_
          (try simp only [Act.put, List.setIfInBounds_toArray, List.set_cons_zero, List.set_cons_succ])
          refine wpList_val (by rw [hO]; kernel_rfl) (.string B) (fun K9 hK9 => by go_simp; exact hK9) ?_
          (try simp only [Act.put, List.setIfInBounds_toArray, List.set_cons_zero, List.set_cons_succ])
          refine wpList_val (by rw [hO]; kernel_rfl) (.bool true) (fun K9 hK9 => by go_simp; exact hK9) ?_
          (try simp only [Act.put, List.setIfInBounds_toArray, List.set_cons_zero, List.set_cons_succ])
          refine wpList_val (by rw [hO]; kernel_rfl) (.bool false) (fun K9 hK9 => by go_simp; exact hK9) ?_
          (try simp only [Act.put, List.setIfInBounds_toArray, List.set_cons_zero, List.set_cons_succ])
          refine wpList_val (by rw [hO]; kernel_rfl) (.bool false) (fun K9 hK9 => by go_simp; exact hK9) ?_
          (try simp only [Act.put, List.setIfInBounds_toArray, List.set_cons_zero, List.set_cons_succ])
          refine wpList_val (by rw [hO]; kernel_rfl) (.bool false) (fun K9 hK9 => by go_simp; exact hK9) ?_
          (try simp only [Act.put, List.setIfInBounds_toArray, List.set_cons_zero, List.set_cons_succ])
          refine wpList_val (by rw [hO]; kernel_rfl) (.string A) (fun K9 hK9 => by go_simp; exact hK9) ?_
          (try simp only [Act.put, List.setIfInBounds_toArray, List.set_cons_zero, List.set_cons_succ])
          refine wpList_val (by rw [hO]; kernel_rfl) (.string A) (fun K9 hK9 => by go_simp; exact hK9) ?_
          (try simp only [Act.put, List.setIfInBounds_toArray, List.set_cons_zero, List.set_cons_succ])
          refine wpList_want (by rw [hO]; kernel_rfl) fun K9 hK9 => ?_
          go_simp
          go_at_call 14
          refine (unhide CAA _).mono ?_
          rintro e w1 ⟨rfl, hw1⟩
          subst w1
          refine hK9 _ _ ?_
          clear hK9 K9
          (try simp only [Act.put, List.setIfInBounds_toArray, List.set_cons_zero, List.set_cons_succ])
          refine wpList_val (by rw [hO]; kernel_rfl) (.bool false) (fun K9 hK9 => by go_simp; exact hK9) ?_
          (try simp only [Act.put, List.setIfInBounds_toArray, List.set_cons_zero, List.set_cons_succ])
          go_upto_region 6 with fail
          refine region_named fun O hO => ?_
          refine wpList_val (by rw [hO]; kernel_rfl) (.string M) (fun K9 hK9 => by go_simp; exact hK9) ?_
          (try simp only [Act.put, List.setIfInBounds_toArray, List.set_cons_zero, List.set_cons_succ])
          refine wpList_val (by rw [hO]; kernel_rfl) (.string A) (fun K9 hK9 => by go_simp; exact hK9) ?_
          (try simp only [Act.put, List.setIfInBounds_toArray, List.set_cons_zero, List.set_cons_succ])
          refine wpList_val (by rw [hO]; kernel_rfl) (.string MA) (fun K9 hK9 => by go_simp; exact hK9) ?_
          (try simp only [Act.put, List.setIfInBounds_toArray, List.set_cons_zero, List.set_cons_succ])
          refine wpList_val (by rw [hO]; kernel_rfl) (.string M) (fun K9 hK9 => by go_simp; exact hK9) ?_
          (try simp only [Act.put, List.setIfInBounds_toArray, List.set_cons_zero, List.set_cons_succ])
          refine wpList_val (by rw [hO]; kernel_rfl) (.string B) (fun K9 hK9 => by go_simp; exact hK9) ?_
          (try simp only [Act.put, List.setIfInBounds_toArray, List.set_cons_zero, List.set_cons_succ])
          refine wpList_val (by rw [hO]; kernel_rfl) (.string MB) (fun K9 hK9 => by go_simp; exact hK9) ?_
          (try simp only [Act.put, List.setIfInBounds_toArray, List.set_cons_zero, List.set_cons_succ])
          refine wpList_want (by rw [hO]; kernel_rfl) fun K9 hK9 => ?_
          go_simp
          go_at_call 14
          refine (unhide CMM _).mono ?_
          rintro e w1 ⟨rfl, hw1⟩
          subst w1
          refine hK9 _ _ ?_
          clear hK9 K9
          (try simp only [Act.put, List.setIfInBounds_toArray, List.set_cons_zero, List.set_cons_succ])
          refine wpList_val (by rw [hO]; kernel_rfl) (.bool true) (fun K9 hK9 => by go_simp; exact hK9) ?_
          (try simp only [Act.put, List.setIfInBounds_toArray, List.set_cons_zero, List.set_cons_succ])
          refine wpList_val (by rw [hO]; kernel_rfl) (.bool true) (fun K9 hK9 => by go_simp; exact hK9) ?_
          (try simp only [Act.put, List.setIfInBounds_toArray, List.set_cons_zero, List.set_cons_succ])
          refine wpList_val (by rw [hO]; kernel_rfl) (.bool true) (fun K9 hK9 => by go_simp; exact hK9) ?_
          (try simp only [Act.put, List.setIfInBounds_toArray, List.set_cons_zero, List.set_cons_succ])
          refine wpList_val (by rw [hO]; kernel_rfl) (.string A) (fun K9 hK9 => by go_simp; exact hK9) ?_
          (try simp only [Act.put, List.setIfInBounds_toArray, List.set_cons_zero, List.set_cons_succ])
          refine wpList_val (by rw [hO]; kernel_rfl) (.string A) (fun K9 hK9 => by go_simp; exact hK9) ?_
          (try simp only [Act.put, List.setIfInBounds_toArray, List.set_cons_zero, List.set_cons_succ])
          refine wpList_val (by rw [hO]; kernel_rfl) (.string M) (fun K9 hK9 => by go_simp; exact hK9) ?_
          (try simp only [Act.put, List.setIfInBounds_toArray, List.set_cons_zero, List.set_cons_succ])
          refine wpList_val (by rw [hO]; kernel_rfl) (.string AM) (fun K9 hK9 => by go_simp; exact hK9) ?_
          (try simp only [Act.put, List.setIfInBounds_toArray, List.set_cons_zero, List.set_cons_succ])
          refine wpList_want (by rw [hO]; kernel_rfl) fun K9 hK9 => ?_
          go_simp
          go_at_call 14
          refine (unhide CAM _).mono ?_
          rintro e w1 ⟨rfl, hw1⟩
          subst w1
          refine hK9 _ _ ?_
          clear hK9 K9
          (try simp only [Act.put, List.setIfInBounds_toArray, List.set_cons_zero, List.set_cons_succ])
          refine wpList_val (by rw [hO]; kernel_rfl) (.string M) (fun K9 hK9 => by go_simp; exact hK9) ?_
          (try simp only [Act.put, List.setIfInBounds_toArray, List.set_cons_zero, List.set_cons_succ])
          refine wpList_val (by rw [hO]; kernel_rfl) (.bool true) (fun K9 hK9 => by go_simp; exact hK9) ?_
          (try simp only [Act.put, List.setIfInBounds_toArray, List.set_cons_zero, List.set_cons_succ])
          refine wpList_val (by rw [hO]; kernel_rfl) (.bool true) (fun K9 hK9 => by go_simp; exact hK9) ?_
          (try simp only [Act.put, List.setIfInBounds_toArray, List.set_cons_zero, List.set_cons_succ])
          refine wpList_val (by rw [hO]; kernel_rfl) (.bool true) (fun K9 hK9 => by go_simp; exact hK9) ?_
          (try simp only [Act.put, List.setIfInBounds_toArray, List.set_cons_zero, List.set_cons_succ])
          refine wpList_val (by rw [hO]; kernel_rfl) (.bool true) (fun K9 hK9 => by go_simp; exact hK9) ?_
          (try simp only [Act.put, List.setIfInBounds_toArray, List.set_cons_zero, List.set_cons_succ])
          refine wpList_want (by rw [hO]; kernel_rfl) fun K9 hK9 => ?_
          go_simp
          go_at_call 13
          refine (unhide CONE _).mono ?_
          rintro e w3 ⟨rfl, g3⟩
          refine hK9 _ _ ?_
          clear hK9 K9
          (try simp only [Act.put, List.setIfInBounds_toArray, List.set_cons_zero, List.set_cons_succ])
          refine wpList_val (by rw [hO]; kernel_rfl) (.bool true) (fun K9 hK9 => by go_simp; exact hK9) ?_
          (try simp only [Act.put, List.setIfInBounds_toArray, List.set_cons_zero, List.set_cons_succ])
          go_wp2
          go_ret
          exact ⟨rfl, g3⟩
        | false =>
          cases hy : lessL b a with
          | true =>
            have hab : ¬ a = b := fun e => by rw [e] at hy; rw [lessL_irr] at hy; cases hy
            simp only [hx] at cab cmm
            simp only [he] at cam
            simp only [hy] at cba
            obtain ⟨A, hA⟩ : ∃ A, A = str a := ⟨_, rfl⟩
            obtain ⟨B, hB⟩ : ∃ A, A = str b := ⟨_, rfl⟩
            obtain ⟨M, hM⟩ : ∃ A, A = str m := ⟨_, rfl⟩
            obtain ⟨MA, hMA⟩ : ∃ A, A = str (m ++ a) := ⟨_, rfl⟩
            obtain ⟨AM, hAM⟩ : ∃ A, A = str (a ++ m) := ⟨_, rfl⟩
            obtain ⟨MB, hMB⟩ : ∃ A, A = str (m ++ b) := ⟨_, rfl⟩
            obtain ⟨LM, hLM⟩ : ∃ L, L = (str m).toList := ⟨_, rfl⟩
            have hTM := hLM.symm
            rw [str_list] at hLM
            have hn1 : ¬ LM = [] := by rw [hLM]; exact hme
            have hn2 : LM.isEmpty = false := by simpa using hn1
            obtain ⟨LA, hLA⟩ : ∃ L, L = (str a).toList := ⟨_, rfl⟩
            obtain ⟨LB, hLB⟩ : ∃ L, L = (str b).toList := ⟨_, rfl⟩
            have hTA := hLA.symm
            have hTB := hLB.symm
            have hn3 : ¬ LA = LB := by rw [hLA, hLB, str_list, str_list]; exact hab
            have hn4 : (LA == LB) = false := by simpa using hn3
            have hn5 : (LA != LB) = true := by simpa using hn3
            clear hLA hLB
            simp only [← hMA, ← hAM, ← hMB] at cmm cam hp1 hp2 hp3
            simp only [← hA, ← hB, ← hM] at cab cba caa cam hsa hsb hsm hp1 hp2 hp3 hTM ⊢
            simp only [← hA, ← hB] at hTA hTB
            clear hLM
            clear hna hnb hnm hasy htot ha hb hm hA hM hme hirr hMA hAM hx hy he hB hMB hab
            have CAB := hide cab
            have CBA := hide cba
            have CAA := hide caa
            have CMM := hide cmm
            have CAM := hide cam
            have CONE := hide cone
            clear cab cba caa cmm cam cone
            go_enter Try.func6, Try.ntmps6
            go_upto_region 3 with fail
            refine region_named fun O hO => ?_
            refine wpList_val (by rw [hO]; kernel_rfl) (.string A) (fun K9 hK9 => by go_simp; exact hK9) ?_
            (try simp only [Act.put, List.setIfInBounds_toArray, List.set_cons_zero, List.set_cons_succ])
            refine wpList_val (by rw [hO]; kernel_rfl) (.string B) (fun K9 hK9 => by go_simp; exact hK9) ?_
            (try simp only [Act.put, List.setIfInBounds_toArray, List.set_cons_zero, List.set_cons_succ])
            refine wpList_want (by rw [hO]; kernel_rfl) fun K9 hK9 => ?_
            go_simp
            go_at_call 14
            refine (unhide CAB _).mono ?_
            rintro e w1 ⟨rfl, hw1⟩
            subst w1
            refine hK9 _ _ ?_
            clear hK9 K9
            (try simp only [Act.put, List.setIfInBounds_toArray, List.set_cons_zero, List.set_cons_succ])
            refine wpList_val (by rw [hO]; kernel_rfl) (.string B) (fun K9 hK9 => by go_simp; exact hK9) ?_
            (try simp only [Act.put, List.setIfInBounds_toArray, List.set_cons_zero, List.set_cons_succ])
            refine wpList_val (by rw [hO]; kernel_rfl) (.string A) (fun K9 hK9 => by go_simp; exact hK9) ?_
            (try simp only [Act.put, List.setIfInBounds_toArray, List.set_cons_zero, List.set_cons_succ])
            refine wpList_want (by rw [hO]; kernel_rfl) fun K9 hK9 => ?_
            go_simp
            go_at_call 14
            refine (unhide CBA _).mono ?_
            rintro e w1 ⟨rfl, hw1⟩
            subst w1
            refine hK9 _ _ ?_
            clear hK9 K9
            (try simp only [Act.put, List.setIfInBounds_toArray, List.set_cons_zero, List.set_cons_succ])
            refine wpList_val (by rw [hO]; kernel_rfl) (.bool false) (fun K9 hK9 => by go_simp; exact hK9) ?_
            (try simp only [Act.put, List.setIfInBounds_toArray, List.set_cons_zero, List.set_cons_succ])
            refine wpList_val (by rw [hO]; kernel_rfl) (.bool true) (fun K9 hK9 => by go_simp; exact hK9) ?_
            (try simp only [Act.put, List.setIfInBounds_toArray, List.set_cons_zero, List.set_cons_succ])
            go_upto_region 4 with fail
            refine region_named fun O hO => ?_
            refine wpList_val (by rw [hO]; kernel_rfl) (.bool false) (fun K9 hK9 => by go_simp; exact hK9) ?_
            (try simp only [Act.put, List.setIfInBounds_toArray, List.set_cons_zero, List.set_cons_succ])
            refine wpList_val (by rw [hO]; kernel_rfl) (.bool false) (fun K9 hK9 => by go_simp; exact hK9) ?_
            (try simp only [Act.put, List.setIfInBounds_toArray, List.set_cons_zero, List.set_cons_succ])
            refine wpList_skip (by rw [hO]; kernel_rfl) ?_
            (try simp only [Act.put, List.setIfInBounds_toArray, List.set_cons_zero, List.set_cons_succ])
            refine wpList_val (by rw [hO]; kernel_rfl) (.bool false) (fun K9 hK9 => by go_simp; exact hK9) ?_
            (try simp only [Act.put, List.setIfInBounds_toArray, List.set_cons_zero, List.set_cons_succ])
            refine wpList_val (by rw [hO]; kernel_rfl) (.bool false) (fun K9 hK9 => by go_simp; exact hK9) ?_
            (try simp only [Act.put, List.setIfInBounds_toArray, List.set_cons_zero, List.set_cons_succ])
            refine wpList_val (by rw [hO]; kernel_rfl) (.bool false) (fun K9 hK9 => by go_simp; exact hK9) ?_
            (try simp only [Act.put, List.setIfInBounds_toArray, List.set_cons_zero, List.set_cons_succ])
            refine wpList_val (by rw [hO]; kernel_rfl) (.bool false) (fun K9 hK9 => by go_simp; exact hK9) ?_
            (try simp only [Act.put, List.setIfInBounds_toArray, List.set_cons_zero, List.set_cons_succ])
            refine wpList_val (by rw [hO]; kernel_rfl) (.bool true) (fun K9 hK9 => by go_simp; exact hK9) ?_
            (try simp only [Act.put, List.setIfInBounds_toArray, List.set_cons_zero, List.set_cons_succ])
            refine wpList_val (by rw [hO]; kernel_rfl) (.bool true) (fun K9 hK9 => by go_simp; exact hK9) ?_
            (try simp only [Act.put, List.setIfInBounds_toArray, List.set_cons_zero, List.set_cons_succ])
            refine wpList_val (by rw [hO]; kernel_rfl) (.string A) (fun K9 hK9 => by go_simp; exact hK9) ?_
            (try simp only [Act.put, List.setIfInBounds_toArray, List.set_cons_zero, List.set_cons_succ])
            refine wpList_val (by rw [hO]; kernel_rfl) (.string B) (fun K9 hK9 => by go_simp; exact hK9) ?_
            (try simp only [Act.put, List.setIfInBounds_toArray, List.set_cons_zero, List.set_cons_succ])
            refine wpList_val (by rw [hO]; kernel_rfl) (.bool true) (fun K9 hK9 => by go_simp; exact hK9) ?_
            (try simp only [Act.put, List.setIfInBounds_toArray, List.set_cons_zero, List.set_cons_succ])
            refine wpList_val (by rw [hO]; kernel_rfl) (.bool false) (fun K9 hK9 => by go_simp; exact hK9) ?_
            (try simp only [Act.put, List.setIfInBounds_toArray, List.set_cons_zero, List.set_cons_succ])
            refine wpList_val (by rw [hO]; kernel_rfl) (.bool false) (fun K9 hK9 => by go_simp; exact hK9) ?_
            (try simp only [Act.put, List.setIfInBounds_toArray, List.set_cons_zero, List.set_cons_succ])
            refine wpList_val (by rw [hO]; kernel_rfl) (.bool false) (fun K9 hK9 => by go_simp; exact hK9) ?_
            (try simp only [Act.put, List.setIfInBounds_toArray, List.set_cons_zero, List.set_cons_succ])
            refine wpList_val (by rw [hO]; kernel_rfl) (.string A) (fun K9 hK9 => by go_simp; exact hK9) ?_
            (try simp only [Act.put, List.setIfInBounds_toArray, List.set_cons_zero, List.set_cons_succ])
            refine wpList_val (by rw [hO]; kernel_rfl) (.string A) (fun K9 hK9 => by go_simp; exact hK9) ?_
            (try simp only [Act.put, List.setIfInBounds_toArray, List.set_cons_zero, List.set_cons_succ])
            refine wpList_want (by rw [hO]; kernel_rfl) fun K9 hK9 => ?_
            go_simp
            go_at_call 14
            refine (unhide CAA _).mono ?_
            rintro e w1 ⟨rfl, hw1⟩
            subst w1
            refine hK9 _ _ ?_
            clear hK9 K9
            (try simp only [Act.put, List.setIfInBounds_toArray, List.set_cons_zero, List.set_cons_succ])
            refine wpList_val (by rw [hO]; kernel_rfl) (.bool false) (fun K9 hK9 => by go_simp; exact hK9) ?_
            (try simp only [Act.put, List.setIfInBounds_toArray, List.set_cons_zero, List.set_cons_succ])
            go_upto_region 6 with fail
            refine region_named fun O hO => ?_
            refine wpList_val (by rw [hO]; kernel_rfl) (.string M) (fun K9 hK9 => by go_simp; exact hK9) ?_
            (try simp only [Act.put, List.setIfInBounds_toArray, List.set_cons_zero, List.set_cons_succ])
            refine wpList_val (by rw [hO]; kernel_rfl) (.string A) (fun K9 hK9 => by go_simp; exact hK9) ?_
            (try simp only [Act.put, List.setIfInBounds_toArray, List.set_cons_zero, List.set_cons_succ])
            refine wpList_val (by rw [hO]; kernel_rfl) (.string MA) (fun K9 hK9 => by go_simp; exact hK9) ?_
            (try simp only [Act.put, List.setIfInBounds_toArray, List.set_cons_zero, List.set_cons_succ])
            refine wpList_val (by rw [hO]; kernel_rfl) (.string M) (fun K9 hK9 => by go_simp; exact hK9) ?_
            (try simp only [Act.put, List.setIfInBounds_toArray, List.set_cons_zero, List.set_cons_succ])
            refine wpList_val (by rw [hO]; kernel_rfl) (.string B) (fun K9 hK9 => by go_simp; exact hK9) ?_
            (try simp only [Act.put, List.setIfInBounds_toArray, List.set_cons_zero, List.set_cons_succ])
            refine wpList_val (by rw [hO]; kernel_rfl) (.string MB) (fun K9 hK9 => by go_simp; exact hK9) ?_
            (try simp only [Act.put, List.setIfInBounds_toArray, List.set_cons_zero, List.set_cons_succ])
            refine wpList_want (by rw [hO]; kernel_rfl) fun K9 hK9 => ?_
            go_simp
            go_at_call 14
            refine (unhide CMM _).mono ?_
            rintro e w1 ⟨rfl, hw1⟩
            subst w1
            refine hK9 _ _ ?_
            clear hK9 K9
            (try simp only [Act.put, List.setIfInBounds_toArray, List.set_cons_zero, List.set_cons_succ])
            refine wpList_val (by rw [hO]; kernel_rfl) (.bool false) (fun K9 hK9 => by go_simp; exact hK9) ?_
            (try simp only [Act.put, List.setIfInBounds_toArray, List.set_cons_zero, List.set_cons_succ])
            refine wpList_val (by rw [hO]; kernel_rfl) (.bool true) (fun K9 hK9 => by go_simp; exact hK9) ?_
            (try simp only [Act.put, List.setIfInBounds_toArray, List.set_cons_zero, List.set_cons_succ])
            refine wpList_val (by rw [hO]; kernel_rfl) (.bool true) (fun K9 hK9 => by go_simp; exact hK9) ?_
            (try simp only [Act.put, List.setIfInBounds_toArray, List.set_cons_zero, List.set_cons_succ])
            refine wpList_val (by rw [hO]; kernel_rfl) (.string A) (fun K9 hK9 => by go_simp; exact hK9) ?_
            (try simp only [Act.put, List.setIfInBounds_toArray, List.set_cons_zero, List.set_cons_succ])
            refine wpList_val (by rw [hO]; kernel_rfl) (.string A) (fun K9 hK9 => by go_simp; exact hK9) ?_
            (try simp only [Act.put, List.setIfInBounds_toArray, List.set_cons_zero, List.set_cons_succ])
            refine wpList_val (by rw [hO]; kernel_rfl) (.string M) (fun K9 hK9 => by go_simp; exact hK9) ?_
            (try simp only [Act.put, List.setIfInBounds_toArray, List.set_cons_zero, List.set_cons_succ])
            refine wpList_val (by rw [hO]; kernel_rfl) (.string AM) (fun K9 hK9 => by go_simp; exact hK9) ?_
            (try simp only [Act.put, List.setIfInBounds_toArray, List.set_cons_zero, List.set_cons_succ])
            refine wpList_want (by rw [hO]; kernel_rfl) fun K9 hK9 => ?_
            go_simp
            go_at_call 14
            refine (unhide CAM _).mono ?_
            rintro e w1 ⟨rfl, hw1⟩
            subst w1
            refine hK9 _ _ ?_
            clear hK9 K9
            (try simp only [Act.put, List.setIfInBounds_toArray, List.set_cons_zero, List.set_cons_succ])
            refine wpList_val (by rw [hO]; kernel_rfl) (.string M) (fun K9 hK9 => by go_simp; exact hK9) ?_
            (try simp only [Act.put, List.setIfInBounds_toArray, List.set_cons_zero, List.set_cons_succ])
            refine wpList_val (by rw [hO]; kernel_rfl) (.bool true) (fun K9 hK9 => by go_simp; exact hK9) ?_
            (try simp only [Act.put, List.setIfInBounds_toArray, List.set_cons_zero, List.set_cons_succ])
            refine wpList_val (by rw [hO]; kernel_rfl) (.bool true) (fun K9 hK9 => by go_simp; exact hK9) ?_
            (try simp only [Act.put, List.setIfInBounds_toArray, List.set_cons_zero, List.set_cons_succ])
            refine wpList_val (by rw [hO]; kernel_rfl) (.bool true) (fun K9 hK9 => by go_simp; exact hK9) ?_
            (try simp only [Act.put, List.setIfInBounds_toArray, List.set_cons_zero, List.set_cons_succ])
            refine wpList_val (by rw [hO]; kernel_rfl) (.bool true) (fun K9 hK9 => by go_simp; exact hK9) ?_
            (try simp only [Act.put, List.setIfInBounds_toArray, List.set_cons_zero, List.set_cons_succ])
            refine wpList_want (by rw [hO]; kernel_rfl) fun K9 hK9 => ?_
            go_simp
            go_at_call 13
            refine (unhide CONE _).mono ?_
            rintro e w3 ⟨rfl, g3⟩
            refine hK9 _ _ ?_
            clear hK9 K9
            (try simp only [Act.put, List.setIfInBounds_toArray, List.set_cons_zero, List.set_cons_succ])
            refine wpList_val (by rw [hO]; kernel_rfl) (.bool true) (fun K9 hK9 => by go_simp; exact hK9) ?_
            (try simp only [Act.put, List.setIfInBounds_toArray, List.set_cons_zero, List.set_cons_succ])
            go_wp2
            go_ret
            exact ⟨rfl, g3⟩
          | false =>
            obtain rfl := htot hx hy
            simp only [hx] at cab cmm
            simp only [he] at cam
            have cba := cab
            obtain ⟨A, hA⟩ : ∃ A, A = str a := ⟨_, rfl⟩
            obtain ⟨M, hM⟩ : ∃ A, A = str m := ⟨_, rfl⟩
            obtain ⟨MA, hMA⟩ : ∃ A, A = str (m ++ a) := ⟨_, rfl⟩
            obtain ⟨AM, hAM⟩ : ∃ A, A = str (a ++ m) := ⟨_, rfl⟩
            obtain ⟨LM, hLM⟩ : ∃ L, L = (str m).toList := ⟨_, rfl⟩
            have hTM := hLM.symm
            rw [str_list] at hLM
            have hn1 : ¬ LM = [] := by rw [hLM]; exact hme
            have hn2 : LM.isEmpty = false := by simpa using hn1
            simp only [← hMA, ← hAM] at cmm cam hp1 hp2 hp3
            simp only [← hA, ← hM] at cab cba caa cam hsa hsb hsm hp1 hp2 hp3 hTM ⊢
            clear hLM
            clear hna hnb hnm hasy htot ha hb hm hA hM hme hirr hMA hAM hx hy he
            have CAB := hide cab
            have CBA := hide cba
            have CAA := hide caa
            have CMM := hide cmm
            have CAM := hide cam
            have CONE := hide cone
            clear cab cba caa cmm cam cone
            go_enter Try.func6, Try.ntmps6
            go_upto_region 3 with fail
            refine region_named fun O hO => ?_
            refine wpList_val (by rw [hO]; kernel_rfl) (.string A) (fun K9 hK9 => by go_simp; exact hK9) ?_
            (try simp only [Act.put, List.setIfInBounds_toArray, List.set_cons_zero, List.set_cons_succ])
            refine wpList_val (by rw [hO]; kernel_rfl) (.string A) (fun K9 hK9 => by go_simp; exact hK9) ?_
            (try simp only [Act.put, List.setIfInBounds_toArray, List.set_cons_zero, List.set_cons_succ])
            refine wpList_want (by rw [hO]; kernel_rfl) fun K9 hK9 => ?_
            go_simp
            go_at_call 14
            refine (unhide CAB _).mono ?_
            rintro e w1 ⟨rfl, hw1⟩
            subst w1
            refine hK9 _ _ ?_
            clear hK9 K9
            (try simp only [Act.put, List.setIfInBounds_toArray, List.set_cons_zero, List.set_cons_succ])
            refine wpList_val (by rw [hO]; kernel_rfl) (.string A) (fun K9 hK9 => by go_simp; exact hK9) ?_
            (try simp only [Act.put, List.setIfInBounds_toArray, List.set_cons_zero, List.set_cons_succ])
            refine wpList_val (by rw [hO]; kernel_rfl) (.string A) (fun K9 hK9 => by go_simp; exact hK9) ?_
            (try simp only [Act.put, List.setIfInBounds_toArray, List.set_cons_zero, List.set_cons_succ])
            refine wpList_want (by rw [hO]; kernel_rfl) fun K9 hK9 => ?_
            go_simp
            go_at_call 14
            refine (unhide CBA _).mono ?_
            rintro e w1 ⟨rfl, hw1⟩
            subst w1
            refine hK9 _ _ ?_
            clear hK9 K9
            (try simp only [Act.put, List.setIfInBounds_toArray, List.set_cons_zero, List.set_cons_succ])
            refine wpList_val (by rw [hO]; kernel_rfl) (.bool false) (fun K9 hK9 => by go_simp; exact hK9) ?_
            (try simp only [Act.put, List.setIfInBounds_toArray, List.set_cons_zero, List.set_cons_succ])
            refine wpList_val (by rw [hO]; kernel_rfl) (.bool false) (fun K9 hK9 => by go_simp; exact hK9) ?_
            (try simp only [Act.put, List.setIfInBounds_toArray, List.set_cons_zero, List.set_cons_succ])
            go_upto_region 4 with fail
            refine region_named fun O hO => ?_
            refine wpList_val (by rw [hO]; kernel_rfl) (.bool false) (fun K9 hK9 => by go_simp; exact hK9) ?_
            (try simp only [Act.put, List.setIfInBounds_toArray, List.set_cons_zero, List.set_cons_succ])
            refine wpList_val (by rw [hO]; kernel_rfl) (.bool false) (fun K9 hK9 => by go_simp; exact hK9) ?_
            (try simp only [Act.put, List.setIfInBounds_toArray, List.set_cons_zero, List.set_cons_succ])
            refine wpList_skip (by rw [hO]; kernel_rfl) ?_
            (try simp only [Act.put, List.setIfInBounds_toArray, List.set_cons_zero, List.set_cons_succ])
            refine wpList_val (by rw [hO]; kernel_rfl) (.bool false) (fun K9 hK9 => by go_simp; exact hK9) ?_
            (try simp only [Act.put, List.setIfInBounds_toArray, List.set_cons_zero, List.set_cons_succ])
            refine wpList_val (by rw [hO]; kernel_rfl) (.bool false) (fun K9 hK9 => by go_simp; exact hK9) ?_
            (try simp only [Act.put, List.setIfInBounds_toArray, List.set_cons_zero, List.set_cons_succ])
            refine wpList_val (by rw [hO]; kernel_rfl) (.bool false) (fun K9 hK9 => by go_simp; exact hK9) ?_
            (try simp only [Act.put, List.setIfInBounds_toArray, List.set_cons_zero, List.set_cons_succ])
            refine wpList_val (by rw [hO]; kernel_rfl) (.bool false) (fun K9 hK9 => by go_simp; exact hK9) ?_
            (try simp only [Act.put, List.setIfInBounds_toArray, List.set_cons_zero, List.set_cons_succ])
            refine wpList_val (by rw [hO]; kernel_rfl) (.bool false) (fun K9 hK9 => by go_simp; exact hK9) ?_
            (try simp only [Act.put, List.setIfInBounds_toArray, List.set_cons_zero, List.set_cons_succ])
            refine wpList_val (by rw [hO]; kernel_rfl) (.bool false) (fun K9 hK9 => by go_simp; exact hK9) ?_
            (try simp only [Act.put, List.setIfInBounds_toArray, List.set_cons_zero, List.set_cons_succ])
            refine wpList_val (by rw [hO]; kernel_rfl) (.string A) (fun K9 hK9 => by go_simp; exact hK9) ?_
            (try simp only [Act.put, List.setIfInBounds_toArray, List.set_cons_zero, List.set_cons_succ])
            refine wpList_val (by rw [hO]; kernel_rfl) (.string A) (fun K9 hK9 => by go_simp; exact hK9) ?_
            (try simp only [Act.put, List.setIfInBounds_toArray, List.set_cons_zero, List.set_cons_succ])
            refine wpList_val (by rw [hO]; kernel_rfl) (.bool false) (fun K9 hK9 => by go_simp; exact hK9) ?_
            (try simp only [Act.put, List.setIfInBounds_toArray, List.set_cons_zero, List.set_cons_succ])
            refine wpList_val (by rw [hO]; kernel_rfl) (.bool false) (fun K9 hK9 => by go_simp; exact hK9) ?_
            (try simp only [Act.put, List.setIfInBounds_toArray, List.set_cons_zero, List.set_cons_succ])
            refine wpList_val (by rw [hO]; kernel_rfl) (.bool false) (fun K9 hK9 => by go_simp; exact hK9) ?_
            (try simp only [Act.put, List.setIfInBounds_toArray, List.set_cons_zero, List.set_cons_succ])
            refine wpList_val (by rw [hO]; kernel_rfl) (.bool false) (fun K9 hK9 => by go_simp; exact hK9) ?_
            (try simp only [Act.put, List.setIfInBounds_toArray, List.set_cons_zero, List.set_cons_succ])
            refine wpList_val (by rw [hO]; kernel_rfl) (.string A) (fun K9 hK9 => by go_simp; exact hK9) ?_
            (try simp only [Act.put, List.setIfInBounds_toArray, List.set_cons_zero, List.set_cons_succ])
            refine wpList_val (by rw [hO]; kernel_rfl) (.string A) (fun K9 hK9 => by go_simp; exact hK9) ?_
            (try simp only [Act.put, List.setIfInBounds_toArray, List.set_cons_zero, List.set_cons_succ])
            refine wpList_want (by rw [hO]; kernel_rfl) fun K9 hK9 => ?_
            go_simp
            go_at_call 14
            refine (unhide CAA _).mono ?_
            rintro e w1 ⟨rfl, hw1⟩
            subst w1
            refine hK9 _ _ ?_
            clear hK9 K9
            (try simp only [Act.put, List.setIfInBounds_toArray, List.set_cons_zero, List.set_cons_succ])
            refine wpList_val (by rw [hO]; kernel_rfl) (.bool false) (fun K9 hK9 => by go_simp; exact hK9) ?_
            (try simp only [Act.put, List.setIfInBounds_toArray, List.set_cons_zero, List.set_cons_succ])
            go_upto_region 6 with fail
            refine region_named fun O hO => ?_
            refine wpList_val (by rw [hO]; kernel_rfl) (.string M) (fun K9 hK9 => by go_simp; exact hK9) ?_
            (try simp only [Act.put, List.setIfInBounds_toArray, List.set_cons_zero, List.set_cons_succ])
            refine wpList_val (by rw [hO]; kernel_rfl) (.string A) (fun K9 hK9 => by go_simp; exact hK9) ?_
            (try simp only [Act.put, List.setIfInBounds_toArray, List.set_cons_zero, List.set_cons_succ])
            refine wpList_val (by rw [hO]; kernel_rfl) (.string MA) (fun K9 hK9 => by go_simp; exact hK9) ?_
            (try simp only [Act.put, List.setIfInBounds_toArray, List.set_cons_zero, List.set_cons_succ])
            refine wpList_val (by rw [hO]; kernel_rfl) (.string M) (fun K9 hK9 => by go_simp; exact hK9) ?_
            (try simp only [Act.put, List.setIfInBounds_toArray, List.set_cons_zero, List.set_cons_succ])
            refine wpList_val (by rw [hO]; kernel_rfl) (.string A) (fun K9 hK9 => by go_simp; exact hK9) ?_
            (try simp only [Act.put, List.setIfInBounds_toArray, List.set_cons_zero, List.set_cons_succ])
            refine wpList_val (by rw [hO]; kernel_rfl) (.string MA) (fun K9 hK9 => by go_simp; exact hK9) ?_
            (try simp only [Act.put, List.setIfInBounds_toArray, List.set_cons_zero, List.set_cons_succ])
            refine wpList_want (by rw [hO]; kernel_rfl) fun K9 hK9 => ?_
            go_simp
            go_at_call 14
            refine (unhide CMM _).mono ?_
            rintro e w1 ⟨rfl, hw1⟩
            subst w1
            refine hK9 _ _ ?_
            clear hK9 K9
            (try simp only [Act.put, List.setIfInBounds_toArray, List.set_cons_zero, List.set_cons_succ])
            refine wpList_val (by rw [hO]; kernel_rfl) (.bool false) (fun K9 hK9 => by go_simp; exact hK9) ?_
            (try simp only [Act.put, List.setIfInBounds_toArray, List.set_cons_zero, List.set_cons_succ])
            refine wpList_val (by rw [hO]; kernel_rfl) (.bool true) (fun K9 hK9 => by go_simp; exact hK9) ?_
            (try simp only [Act.put, List.setIfInBounds_toArray, List.set_cons_zero, List.set_cons_succ])
            refine wpList_val (by rw [hO]; kernel_rfl) (.bool true) (fun K9 hK9 => by go_simp; exact hK9) ?_
            (try simp only [Act.put, List.setIfInBounds_toArray, List.set_cons_zero, List.set_cons_succ])
            refine wpList_val (by rw [hO]; kernel_rfl) (.string A) (fun K9 hK9 => by go_simp; exact hK9) ?_
            (try simp only [Act.put, List.setIfInBounds_toArray, List.set_cons_zero, List.set_cons_succ])
            refine wpList_val (by rw [hO]; kernel_rfl) (.string A) (fun K9 hK9 => by go_simp; exact hK9) ?_
            (try simp only [Act.put, List.setIfInBounds_toArray, List.set_cons_zero, List.set_cons_succ])
            refine wpList_val (by rw [hO]; kernel_rfl) (.string M) (fun K9 hK9 => by go_simp; exact hK9) ?_
            (try simp only [Act.put, List.setIfInBounds_toArray, List.set_cons_zero, List.set_cons_succ])
            refine wpList_val (by rw [hO]; kernel_rfl) (.string AM) (fun K9 hK9 => by go_simp; exact hK9) ?_
            (try simp only [Act.put, List.setIfInBounds_toArray, List.set_cons_zero, List.set_cons_succ])
            refine wpList_want (by rw [hO]; kernel_rfl) fun K9 hK9 => ?_
            go_simp
            go_at_call 14
            refine (unhide CAM _).mono ?_
            rintro e w1 ⟨rfl, hw1⟩
            subst w1
            refine hK9 _ _ ?_
            clear hK9 K9
            (try simp only [Act.put, List.setIfInBounds_toArray, List.set_cons_zero, List.set_cons_succ])
            refine wpList_val (by rw [hO]; kernel_rfl) (.string M) (fun K9 hK9 => by go_simp; exact hK9) ?_
            (try simp only [Act.put, List.setIfInBounds_toArray, List.set_cons_zero, List.set_cons_succ])
            refine wpList_val (by rw [hO]; kernel_rfl) (.bool true) (fun K9 hK9 => by go_simp; exact hK9) ?_
            (try simp only [Act.put, List.setIfInBounds_toArray, List.set_cons_zero, List.set_cons_succ])
            refine wpList_val (by rw [hO]; kernel_rfl) (.bool true) (fun K9 hK9 => by go_simp; exact hK9) ?_
            (try simp only [Act.put, List.setIfInBounds_toArray, List.set_cons_zero, List.set_cons_succ])
            refine wpList_val (by rw [hO]; kernel_rfl) (.bool true) (fun K9 hK9 => by go_simp; exact hK9) ?_
            (try simp only [Act.put, List.setIfInBounds_toArray, List.set_cons_zero, List.set_cons_succ])
            refine wpList_val (by rw [hO]; kernel_rfl) (.bool true) (fun K9 hK9 => by go_simp; exact hK9) ?_
            (try simp only [Act.put, List.setIfInBounds_toArray, List.set_cons_zero, List.set_cons_succ])
            refine wpList_want (by rw [hO]; kernel_rfl) fun K9 hK9 => ?_
            go_simp
            go_at_call 13
            refine (unhide CONE _).mono ?_
            rintro e w3 ⟨rfl, g3⟩
            refine hK9 _ _ ?_
            clear hK9 K9
            (try simp only [Act.put, List.setIfInBounds_toArray, List.set_cons_zero, List.set_cons_succ])
            refine wpList_val (by rw [hO]; kernel_rfl) (.bool true) (fun K9 hK9 => by go_simp; exact hK9) ?_
            (try simp only [Act.put, List.setIfInBounds_toArray, List.set_cons_zero, List.set_cons_succ])
            go_wp2
            go_ret
            exact ⟨rfl, g3⟩

end Go.Proofs.Ythloicahdmfjnaa
