/- The walk of ChunkLengths. -/
import Derived.Test.YtadkpkdojbhigaaCkO
import Derived.Test.YtadkpkdojbhigaaMMsk
import Derived.Test.YtadkpkdojbhigaaMGrd
import Derived.Deep.DeepCutAuto
namespace Go.Proofs.Ytadkpkdojbhigaa
open Go.RowKit

set_option maxRecDepth 100000 in
set_option maxHeartbeats 1000000 in
theorem walk_lens (w : World) (a : Int) : Calls Try.prog 6 #[.int .i64 a] w fun e w' => e = .returned (.bool true) ∧ w.grownBy w' none := by
  obtain ⟨m, hm, hb⟩ := and_mask 4194303 (by omega) a
  have hb2 : bits .and .i64 a 4194303 = (m : Int) := hb
  have c1 := padded_any w (m : Int)
  have c2 := padded_any w ((m : Int) + 1)
  have c3 := count_any w (m : Int)
  rw [pdI_nat m (by omega)] at c1
  rw [show (m : Int) + 1 = ((m + 1 : Nat) : Int) from by omega, pdI_nat (m + 1) (by omega), show ((m + 1 : Nat) : Int) = (m : Int) + 1 from by omega] at c2
  have h1 := pdN_mod m
  have h2 := pdN_le m
  have h3 := pdN_lt m
  have h4 := pdN_mono (Nat.le_succ m)
  have h5 := pdN_lt (m + 1)
  have h6 : cnI m = (((pdN m + 2047) / 2048 : Nat) : Int) := by unfold cnI; rw [pdI_nat m (by omega)]; omega
  rw [h6] at c3
  obtain ⟨p, hp⟩ : ∃ p, p = pdN m := ⟨_, rfl⟩
  obtain ⟨q, hq⟩ : ∃ q, q = pdN (m + 1) := ⟨_, rfl⟩
  obtain ⟨c, hc⟩ : ∃ c, c = (pdN m + 2047) / 2048 := ⟨_, rfl⟩
  rw [← hc] at c3
  rw [← hp] at c1 h1 h2 h3 h4 hc
  simp only [Nat.succ_eq_add_one] at h4
  rw [← hq] at c2 h4 h5
  have d1 : Int.tmod (p : Int) 256 = 0 := by rw [Int.tmod_eq_emod_of_nonneg (by omega)]; omega
  have d2 : (p : Int) % 256 = 0 := by omega
  have d3 : (m : Int) + 4 ≤ (p : Int) := by omega
  have d4 : (p : Int) < (m : Int) + 260 := by omega
  have d5 : (p : Int) ≤ (q : Int) := by omega
  have d6 : (p : Int) ≤ (c : Int) * 2048 := by omega
  have d7 : ((c : Int) - 1) * 2048 < (p : Int) := by omega
  have hcb : c ≤ 10000 := by omega
  have e1 : IntKind.i64.wrap ((m : Int) + 4) = (m : Int) + 4 := by rw [IntKind.wrap_i64]; omega
  have e2 : IntKind.i64.wrap ((m : Int) + 260) = (m : Int) + 260 := by rw [IntKind.wrap_i64]; omega
  have e3 : IntKind.i64.wrap ((c : Int) * 2048) = (c : Int) * 2048 := by rw [IntKind.wrap_i64]; omega
  have e4 : IntKind.i64.wrap ((c : Int) - 1) = (c : Int) - 1 := by rw [IntKind.wrap_i64]; omega
  have e5 : IntKind.i64.wrap (((c : Int) - 1) * 2048) = ((c : Int) - 1) * 2048 := by rw [IntKind.wrap_i64]; omega
  clear hc hp hq hb h6
  go_enter Try.func6, Try.ntmps6
  go_wp2_with fail
  refine c1.mono ?_
  rintro e w1 ⟨rfl, hw⟩
  subst w1
  clear c1
  go_wp2_with fail
  refine c2.mono ?_
  rintro e w1 ⟨rfl, hw⟩
  subst w1
  clear c2
  go_wp2_with fail
  refine c3.mono ?_
  rintro e w1 ⟨rfl, hw⟩
  subst w1
  clear c3
  go_upto_region 4 with fail
  refine region_named fun O hO => ?_
  refine wpList_val (by rw [hO]; kernel_rfl) (.int .i64 ((p : Int))) (fun K9 hK9 => by go_simp; exact hK9) ?_
  (try simp only [Act.put, pq1, pq2, pq3])
  refine wpList_val (by rw [hO]; kernel_rfl) (.int .i64 (0)) (fun K9 hK9 => by go_simp; exact hK9) ?_
  (try simp only [Act.put, pq1, pq2, pq3])
  refine wpList_val (by rw [hO]; kernel_rfl) (.bool true) (fun K9 hK9 => by go_simp; exact hK9) ?_
  (try simp only [Act.put, pq1, pq2, pq3])
  refine wpList_val (by rw [hO]; kernel_rfl) (.bool true) (fun K9 hK9 => by go_simp; exact hK9) ?_
  (try simp only [Act.put, pq1, pq2, pq3])
  refine wpList_val (by rw [hO]; kernel_rfl) (.int .i64 ((p : Int))) (fun K9 hK9 => by go_simp; exact hK9) ?_
  (try simp only [Act.put, pq1, pq2, pq3])
  refine wpList_val (by rw [hO]; kernel_rfl) (.int .i64 ((m : Int))) (fun K9 hK9 => by go_simp; exact hK9) ?_
  (try simp only [Act.put, pq1, pq2, pq3])
  refine wpList_val (by rw [hO]; kernel_rfl) (.int .i64 ((m : Int) + 4)) (fun K9 hK9 => by go_simp; exact hK9) ?_
  (try simp only [Act.put, pq1, pq2, pq3])
  refine wpList_val (by rw [hO]; kernel_rfl) (.bool true) (fun K9 hK9 => by go_simp; exact hK9) ?_
  (try simp only [Act.put, pq1, pq2, pq3])
  refine wpList_val (by rw [hO]; kernel_rfl) (.bool true) (fun K9 hK9 => by go_simp; exact hK9) ?_
  (try simp only [Act.put, pq1, pq2, pq3])
  refine wpList_val (by rw [hO]; kernel_rfl) (.bool true) (fun K9 hK9 => by go_simp; exact hK9) ?_
  (try simp only [Act.put, pq1, pq2, pq3])
  refine wpList_val (by rw [hO]; kernel_rfl) (.int .i64 ((p : Int))) (fun K9 hK9 => by go_simp; exact hK9) ?_
  (try simp only [Act.put, pq1, pq2, pq3])
  refine wpList_val (by rw [hO]; kernel_rfl) (.int .i64 ((m : Int))) (fun K9 hK9 => by go_simp; exact hK9) ?_
  (try simp only [Act.put, pq1, pq2, pq3])
  refine wpList_val (by rw [hO]; kernel_rfl) (.int .i64 ((m : Int) + 260)) (fun K9 hK9 => by go_simp; exact hK9) ?_
  (try simp only [Act.put, pq1, pq2, pq3])
  refine wpList_val (by rw [hO]; kernel_rfl) (.bool true) (fun K9 hK9 => by go_simp; exact hK9) ?_
  (try simp only [Act.put, pq1, pq2, pq3])
  refine wpList_val (by rw [hO]; kernel_rfl) (.bool true) (fun K9 hK9 => by go_simp; exact hK9) ?_
  (try simp only [Act.put, pq1, pq2, pq3])
  refine wpList_val (by rw [hO]; kernel_rfl) (.bool true) (fun K9 hK9 => by go_simp; exact hK9) ?_
  (try simp only [Act.put, pq1, pq2, pq3])
  refine wpList_val (by rw [hO]; kernel_rfl) (.int .i64 ((q : Int))) (fun K9 hK9 => by go_simp; exact hK9) ?_
  (try simp only [Act.put, pq1, pq2, pq3])
  refine wpList_val (by rw [hO]; kernel_rfl) (.int .i64 ((p : Int))) (fun K9 hK9 => by go_simp; exact hK9) ?_
  (try simp only [Act.put, pq1, pq2, pq3])
  refine wpList_val (by rw [hO]; kernel_rfl) (.bool true) (fun K9 hK9 => by go_simp; exact hK9) ?_
  (try simp only [Act.put, pq1, pq2, pq3])
  refine wpList_val (by rw [hO]; kernel_rfl) (.bool true) (fun K9 hK9 => by go_simp; exact hK9) ?_
  (try simp only [Act.put, pq1, pq2, pq3])
  refine wpList_skip (by rw [hO]; kernel_rfl) ?_
  (try simp only [Act.put, pq1, pq2, pq3])
  refine wpList_skip (by rw [hO]; kernel_rfl) ?_
  (try simp only [Act.put, pq1, pq2, pq3])
  refine wpList_skip (by rw [hO]; kernel_rfl) ?_
  (try simp only [Act.put, pq1, pq2, pq3])
  refine wpList_val (by rw [hO]; kernel_rfl) (.bool true) (fun K9 hK9 => by go_simp; exact hK9) ?_
  (try simp only [Act.put, pq1, pq2, pq3])
  refine wpList_val (by rw [hO]; kernel_rfl) (.bool true) (fun K9 hK9 => by go_simp; exact hK9) ?_
  (try simp only [Act.put, pq1, pq2, pq3])
  refine wpList_val (by rw [hO]; kernel_rfl) (.bool true) (fun K9 hK9 => by go_simp; exact hK9) ?_
  (try simp only [Act.put, pq1, pq2, pq3])
  refine wpList_val (by rw [hO]; kernel_rfl) (.int .i64 ((c : Int))) (fun K9 hK9 => by go_simp; exact hK9) ?_
  (try simp only [Act.put, pq1, pq2, pq3])
  refine wpList_val (by rw [hO]; kernel_rfl) (.int .i64 ((c : Int) * 2048)) (fun K9 hK9 => by go_simp; exact hK9) ?_
  (try simp only [Act.put, pq1, pq2, pq3])
  refine wpList_val (by rw [hO]; kernel_rfl) (.int .i64 ((p : Int))) (fun K9 hK9 => by go_simp; exact hK9) ?_
  (try simp only [Act.put, pq1, pq2, pq3])
  refine wpList_val (by rw [hO]; kernel_rfl) (.bool true) (fun K9 hK9 => by go_simp; exact hK9) ?_
  (try simp only [Act.put, pq1, pq2, pq3])
  refine wpList_val (by rw [hO]; kernel_rfl) (.bool true) (fun K9 hK9 => by go_simp; exact hK9) ?_
  (try simp only [Act.put, pq1, pq2, pq3])
  refine wpList_val (by rw [hO]; kernel_rfl) (.bool true) (fun K9 hK9 => by go_simp; exact hK9) ?_
  (try simp only [Act.put, pq1, pq2, pq3])
  refine wpList_val (by rw [hO]; kernel_rfl) (.int .i64 ((c : Int))) (fun K9 hK9 => by go_simp; exact hK9) ?_
  (try simp only [Act.put, pq1, pq2, pq3])
  refine wpList_val (by rw [hO]; kernel_rfl) (.int .i64 ((c : Int) - 1)) (fun K9 hK9 => by go_simp; exact hK9) ?_
  (try simp only [Act.put, pq1, pq2, pq3])
  refine wpList_val (by rw [hO]; kernel_rfl) (.int .i64 (((c : Int) - 1) * 2048)) (fun K9 hK9 => by go_simp; exact hK9) ?_
  (try simp only [Act.put, pq1, pq2, pq3])
  refine wpList_val (by rw [hO]; kernel_rfl) (.int .i64 ((p : Int))) (fun K9 hK9 => by go_simp; exact hK9) ?_
  (try simp only [Act.put, pq1, pq2, pq3])
  refine wpList_val (by rw [hO]; kernel_rfl) (.bool true) (fun K9 hK9 => by go_simp; exact hK9) ?_
  (try simp only [Act.put, pq1, pq2, pq3])
  refine wpList_val (by rw [hO]; kernel_rfl) (.bool true) (fun K9 hK9 => by go_simp; exact hK9) ?_
  (try simp only [Act.put, pq1, pq2, pq3])
  refine wpList_val (by rw [hO]; kernel_rfl) (.bool true) (fun K9 hK9 => by go_simp; exact hK9) ?_
  (try simp only [Act.put, pq1, pq2, pq3])
  refine wpList_want (by rw [hO]; kernel_rfl) fun K9 hK9 => ?_
  go_simp
  go_at_call 15
  refine (ckone_any w).mono ?_
  rintro e w9 ⟨rfl, g9⟩
  have G9 := tn (gb_refl w none) g9
  refine hK9 _ _ ?_
  clear hK9 K9
  (try simp only [Act.put, pq1, pq2, pq3])
  refine wpList_val (by rw [hO]; kernel_rfl) (.bool true) (fun K9 hK9 => by go_simp; exact hK9) ?_
  (try simp only [Act.put, pq1, pq2, pq3])
  refine wpList_val (by rw [hO]; kernel_rfl) (.bool true) (fun K9 hK9 => by go_simp; exact hK9) ?_
  (try simp only [Act.put, pq1, pq2, pq3])
  go_wp2
  go_ret
  exact ⟨rfl, G9⟩

end Go.Proofs.Ytadkpkdojbhigaa
