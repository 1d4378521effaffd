/- The walk of ChunkBack. -/
import Derived.Test.YtadkpkdojbhigaaCkO
import Derived.Test.YtadkpkdojbhigaaCkN
import Derived.Test.YtadkpkdojbhigaaMGrd
import Derived.Deep.DeepCutAuto
namespace Go.Proofs.Ytadkpkdojbhigaa
open Go.RowKit

theorem own_formC {w : World} {base n : Nat} {v : Value} {xs : List Value} (h : w.ownsRow base 5 1 v n xs) : ∃ oo oc, v = .slice oo n oc ∧ (0 < n → ∃ g, oo = some ⟨g, 0, none⟩) := by
  rcases h.2 with ⟨h1, h2⟩ | ⟨g, cap, cur, h1, _⟩
  · subst h2; exact ⟨none, 0, h1, fun h => by omega⟩
  · exact ⟨_, cap, h1, fun _ => ⟨g, rfl⟩⟩

set_option maxRecDepth 100000 in
set_option maxHeartbeats 4000000 in
theorem walk_back (w : World) (ao : Option Addr) (c : Nat) (b : List UInt8) (hb : Bts w ao c b) (bo : Option Addr) (d : Nat) (o : List UInt8) (ho : Bts w bo d o) : Calls Try.prog 4 #[.slice ao b.length c, .slice bo o.length d] w fun e w' => e = .returned (.bool true) ∧ w.grownBy w' none := by
  obtain ⟨n, hn⟩ : ∃ n, n = b.length := ⟨_, rfl⟩
  obtain ⟨m, hm⟩ : ∃ m, m = o.length := ⟨_, rfl⟩
  rw [← hn, ← hm]
  by_cases h1 : 5000 < n
  · have h1i : (5000 : Int) < (n : Int) := by omega
    clear hn hm
    go_enter Try.func4, Try.ntmps4
    go_wp2
    go_ret
    exact ⟨rfl, gb_refl _ _⟩
  by_cases h2 : 5000 < m
  · have h1i : ¬ (5000 : Int) < (n : Int) := by omega
    have h2i : (5000 : Int) < (m : Int) := by omega
    clear hn hm
    go_enter Try.func4, Try.ntmps4
    go_wp2
    go_ret
    exact ⟨rfl, gb_refl _ _⟩
  have h1i : ¬ (5000 : Int) < (n : Int) := by omega
  have h2i : ¬ (5000 : Int) < (m : Int) := by omega
  have cp := pad_any w ao c b hb (by omega)
  have cq := fun W g => pad_any W bo d o (ho.kept (a := W) (r := none) g (fun _ e => by cases e)) (by omega)
  rw [← hn] at cp
  rw [← hm] at cq
  obtain ⟨pn, hpn⟩ : ∃ p, p = pdN n := ⟨_, rfl⟩
  obtain ⟨qn, hqn⟩ : ∃ q, q = pdN m := ⟨_, rfl⟩
  rw [← hpn] at cp
  rw [← hqn] at cq
  have HPN : Hid (∀ W, Calls Try.prog 11 #[.int .i64 (n : Int)] W fun e w' => e = .returned (.int .i64 (pn : Int)) ∧ w' = W) := fun W => by
    have := padded_any W (n : Int)
    rw [pdI_nat n (by omega), ← hpn] at this
    exact this
  have HQN : Hid (∀ W, Calls Try.prog 11 #[.int .i64 (m : Int)] W fun e w' => e = .returned (.int .i64 (qn : Int)) ∧ w' = W) := fun W => by
    have := padded_any W (m : Int)
    rw [pdI_nat m (by omega), ← hqn] at this
    exact this
  have hpb : 4 ≤ pn ∧ pn ≤ 5260 := by have := pdN_le n; have := pdN_lt n; omega
  have HPL : Hid ((padL b).length = pn) := by have := padL_length b; rw [← hn, ← hpn] at this; exact this
  have hp0 : ¬ (pn : Int) = 0 := by omega
  have hp1 : ¬ pn = 0 := by omega
  have hp2 : (pn == 0) = false := by simp; omega
  have hp3 : ((pn : Int) == 0) = false := by simp; omega
  have HN := hide hn
  have HPE := hide hpn
  have HB := hide hb
  clear hn hm hpn hqn hb ho
  go_enter Try.func4, Try.ntmps4
  go_wp2_with fail
  refine cp.mono ?_
  rintro e w1 ⟨xb, rfl, hxb, hX1, g1⟩
  clear cp
  go_wp2_with fail
  refine (cq w1 g1).mono ?_
  rintro e w2 ⟨yb, rfl, hyb, _, g2⟩
  clear cq
  have G2 := tn g1 g2
  have hX2 := hX1.kept g2 (by simp)
  have hbx := bts_blk hX2 (by rw [unhide HPL]; unfold maxLen; omega)
  rw [unhide HPL] at hbx
  have HX2 := hide hbx
  have HG2 := hide G2
  clear hX1 hX2 hbx G2
  go_upto_region 5 with fail
  go_cut [59] (fun v wx => v = .bool false ∧ wx = w2)
  case first =>
    by_cases heq : pn = qn
    · have hq1 : (pn : Int) = (qn : Int) := by omega
      subst heq
      refine region_named fun O hO => ?_
      refine wpList_val (by rw [hO]; kernel_rfl) (.int .i64 (0)) (fun K9 hK9 => by go_simp; exact hK9) ?_
      (try simp only [Act.put, pq1, pq2, pq3])
      refine wpList_val (by rw [hO]; kernel_rfl) (.bool false) (fun K9 hK9 => by go_simp; exact hK9) ?_
      (try simp only [Act.put, pq1, pq2, pq3])
      refine wpList_val (by rw [hO]; kernel_rfl) (.bool false) (fun K9 hK9 => by go_simp; exact hK9) ?_
      (try simp only [Act.put, pq1, pq2, pq3])
      refine wpList_val (by rw [hO]; kernel_rfl) (.int .i64 (0)) (fun K9 hK9 => by go_simp; exact hK9) ?_
      (try simp only [Act.put, pq1, pq2, pq3])
      refine wpList_val (by rw [hO]; kernel_rfl) (.bool false) (fun K9 hK9 => by go_simp; exact hK9) ?_
      (try simp only [Act.put, pq1, pq2, pq3])
      refine wpList_val (by rw [hO]; kernel_rfl) (.bool false) (fun K9 hK9 => by go_simp; exact hK9) ?_
      (try simp only [Act.put, pq1, pq2, pq3])
      refine wpList_val (by rw [hO]; kernel_rfl) (.bool false) (fun K9 hK9 => by go_simp; exact hK9) ?_
      (try simp only [Act.put, pq1, pq2, pq3])
      refine wpList_val (by rw [hO]; kernel_rfl) (.slice (some ⟨xb, 0, none⟩) pn pn) (fun K9 hK9 => by go_simp; exact hK9) ?_
      (try simp only [Act.put, pq1, pq2, pq3])
      refine wpList_val (by rw [hO]; kernel_rfl) (.int .i64 (pn : Int)) (fun K9 hK9 => by go_simp; exact hK9) ?_
      (try simp only [Act.put, pq1, pq2, pq3])
      refine wpList_val (by rw [hO]; kernel_rfl) (.bool false) (fun K9 hK9 => by go_simp; exact hK9) ?_
      (try simp only [Act.put, pq1, pq2, pq3])
      refine wpList_val (by rw [hO]; kernel_rfl) (.bool false) (fun K9 hK9 => by go_simp; exact hK9) ?_
      (try simp only [Act.put, pq1, pq2, pq3])
      refine wpList_val (by rw [hO]; kernel_rfl) (.bool false) (fun K9 hK9 => by go_simp; exact hK9) ?_
      (try simp only [Act.put, pq1, pq2, pq3])
      refine wpList_val (by rw [hO]; kernel_rfl) (.slice (some ⟨xb, 0, none⟩) pn pn) (fun K9 hK9 => by go_simp; exact hK9) ?_
      (try simp only [Act.put, pq1, pq2, pq3])
      refine wpList_val (by rw [hO]; kernel_rfl) (.int .i64 (pn : Int)) (fun K9 hK9 => by go_simp; exact hK9) ?_
      (try simp only [Act.put, pq1, pq2, pq3])
      refine wpList_val (by rw [hO]; kernel_rfl) (.slice (some ⟨yb, 0, none⟩) pn pn) (fun K9 hK9 => by go_simp; exact hK9) ?_
      (try simp only [Act.put, pq1, pq2, pq3])
      refine wpList_val (by rw [hO]; kernel_rfl) (.int .i64 (pn : Int)) (fun K9 hK9 => by go_simp; exact hK9) ?_
      (try simp only [Act.put, pq1, pq2, pq3])
      refine wpList_val (by rw [hO]; kernel_rfl) (.bool true) (fun K9 hK9 => by go_simp; exact hK9) ?_
      (try simp only [Act.put, pq1, pq2, pq3])
      refine wpList_val (by rw [hO]; kernel_rfl) (.slice ao n c) (fun K9 hK9 => by go_simp; exact hK9) ?_
      (try simp only [Act.put, pq1, pq2, pq3])
      refine wpList_val (by rw [hO]; kernel_rfl) (.int .i64 (n : Int)) (fun K9 hK9 => by go_simp; exact hK9) ?_
      (try simp only [Act.put, pq1, pq2, pq3])
      refine wpList_want (by rw [hO]; kernel_rfl) fun K9 hK9 => ?_
      go_simp
      go_at_call 11
      refine (unhide HPN w2).mono ?_
      rintro e w9 ⟨rfl, hw9⟩
      subst w9
      refine hK9 _ _ ?_
      clear hK9 K9
      (try simp only [Act.put, pq1, pq2, pq3])
      refine wpList_val (by rw [hO]; kernel_rfl) (.slice bo m d) (fun K9 hK9 => by go_simp; exact hK9) ?_
      (try simp only [Act.put, pq1, pq2, pq3])
      refine wpList_val (by rw [hO]; kernel_rfl) (.int .i64 (m : Int)) (fun K9 hK9 => by go_simp; exact hK9) ?_
      (try simp only [Act.put, pq1, pq2, pq3])
      refine wpList_want (by rw [hO]; kernel_rfl) fun K9 hK9 => ?_
      go_simp
      go_at_call 11
      refine (unhide HQN w2).mono ?_
      rintro e w9 ⟨rfl, hw9⟩
      subst w9
      refine hK9 _ _ ?_
      clear hK9 K9
      (try simp only [Act.put, pq1, pq2, pq3])
      refine wpList_val (by rw [hO]; kernel_rfl) (.bool true) (fun K9 hK9 => by go_simp; exact hK9) ?_
      (try simp only [Act.put, pq1, pq2, pq3])
      refine wpList_val (by rw [hO]; kernel_rfl) (.bool false) (fun K9 hK9 => by go_simp; exact hK9) ?_
      (try simp only [Act.put, pq1, pq2, pq3])
      refine wpList_val (by rw [hO]; kernel_rfl) (.bool false) (fun K9 hK9 => by go_simp; exact hK9) ?_
      (try simp only [Act.put, pq1, pq2, pq3])
      go_wp2
      go_meet
      case rel => exact ⟨rfl, rfl⟩
    · have hq1 : ¬ (pn : Int) = (qn : Int) := by omega
      have hq2 : (pn == qn) = false := by simpa using heq
      have hq3 : ((pn : Int) == (qn : Int)) = false := by simp; omega
      refine region_named fun O hO => ?_
      refine wpList_val (by rw [hO]; kernel_rfl) (.int .i64 (0)) (fun K9 hK9 => by go_simp; exact hK9) ?_
      (try simp only [Act.put, pq1, pq2, pq3])
      refine wpList_val (by rw [hO]; kernel_rfl) (.bool false) (fun K9 hK9 => by go_simp; exact hK9) ?_
      (try simp only [Act.put, pq1, pq2, pq3])
      refine wpList_val (by rw [hO]; kernel_rfl) (.bool false) (fun K9 hK9 => by go_simp; exact hK9) ?_
      (try simp only [Act.put, pq1, pq2, pq3])
      refine wpList_val (by rw [hO]; kernel_rfl) (.int .i64 (0)) (fun K9 hK9 => by go_simp; exact hK9) ?_
      (try simp only [Act.put, pq1, pq2, pq3])
      refine wpList_val (by rw [hO]; kernel_rfl) (.bool false) (fun K9 hK9 => by go_simp; exact hK9) ?_
      (try simp only [Act.put, pq1, pq2, pq3])
      refine wpList_val (by rw [hO]; kernel_rfl) (.bool false) (fun K9 hK9 => by go_simp; exact hK9) ?_
      (try simp only [Act.put, pq1, pq2, pq3])
      refine wpList_val (by rw [hO]; kernel_rfl) (.bool false) (fun K9 hK9 => by go_simp; exact hK9) ?_
      (try simp only [Act.put, pq1, pq2, pq3])
      refine wpList_val (by rw [hO]; kernel_rfl) (.slice (some ⟨xb, 0, none⟩) pn pn) (fun K9 hK9 => by go_simp; exact hK9) ?_
      (try simp only [Act.put, pq1, pq2, pq3])
      refine wpList_val (by rw [hO]; kernel_rfl) (.int .i64 (pn : Int)) (fun K9 hK9 => by go_simp; exact hK9) ?_
      (try simp only [Act.put, pq1, pq2, pq3])
      refine wpList_val (by rw [hO]; kernel_rfl) (.bool false) (fun K9 hK9 => by go_simp; exact hK9) ?_
      (try simp only [Act.put, pq1, pq2, pq3])
      refine wpList_val (by rw [hO]; kernel_rfl) (.bool false) (fun K9 hK9 => by go_simp; exact hK9) ?_
      (try simp only [Act.put, pq1, pq2, pq3])
      refine wpList_val (by rw [hO]; kernel_rfl) (.bool false) (fun K9 hK9 => by go_simp; exact hK9) ?_
      (try simp only [Act.put, pq1, pq2, pq3])
      refine wpList_val (by rw [hO]; kernel_rfl) (.slice (some ⟨xb, 0, none⟩) pn pn) (fun K9 hK9 => by go_simp; exact hK9) ?_
      (try simp only [Act.put, pq1, pq2, pq3])
      refine wpList_val (by rw [hO]; kernel_rfl) (.int .i64 (pn : Int)) (fun K9 hK9 => by go_simp; exact hK9) ?_
      (try simp only [Act.put, pq1, pq2, pq3])
      refine wpList_val (by rw [hO]; kernel_rfl) (.slice (some ⟨yb, 0, none⟩) qn qn) (fun K9 hK9 => by go_simp; exact hK9) ?_
      (try simp only [Act.put, pq1, pq2, pq3])
      refine wpList_val (by rw [hO]; kernel_rfl) (.int .i64 (qn : Int)) (fun K9 hK9 => by go_simp; exact hK9) ?_
      (try simp only [Act.put, pq1, pq2, pq3])
      refine wpList_val (by rw [hO]; kernel_rfl) (.bool false) (fun K9 hK9 => by go_simp; exact hK9) ?_
      (try simp only [Act.put, pq1, pq2, pq3])
      refine wpList_val (by rw [hO]; kernel_rfl) (.slice ao n c) (fun K9 hK9 => by go_simp; exact hK9) ?_
      (try simp only [Act.put, pq1, pq2, pq3])
      refine wpList_val (by rw [hO]; kernel_rfl) (.int .i64 (n : Int)) (fun K9 hK9 => by go_simp; exact hK9) ?_
      (try simp only [Act.put, pq1, pq2, pq3])
      refine wpList_want (by rw [hO]; kernel_rfl) fun K9 hK9 => ?_
      go_simp
      go_at_call 11
      refine (unhide HPN w2).mono ?_
      rintro e w9 ⟨rfl, hw9⟩
      subst w9
      refine hK9 _ _ ?_
      clear hK9 K9
      (try simp only [Act.put, pq1, pq2, pq3])
      refine wpList_val (by rw [hO]; kernel_rfl) (.slice bo m d) (fun K9 hK9 => by go_simp; exact hK9) ?_
      (try simp only [Act.put, pq1, pq2, pq3])
      refine wpList_val (by rw [hO]; kernel_rfl) (.int .i64 (m : Int)) (fun K9 hK9 => by go_simp; exact hK9) ?_
      (try simp only [Act.put, pq1, pq2, pq3])
      refine wpList_want (by rw [hO]; kernel_rfl) fun K9 hK9 => ?_
      go_simp
      go_at_call 11
      refine (unhide HQN w2).mono ?_
      rintro e w9 ⟨rfl, hw9⟩
      subst w9
      refine hK9 _ _ ?_
      clear hK9 K9
      (try simp only [Act.put, pq1, pq2, pq3])
      refine wpList_val (by rw [hO]; kernel_rfl) (.bool false) (fun K9 hK9 => by go_simp; exact hK9) ?_
      (try simp only [Act.put, pq1, pq2, pq3])
      refine wpList_val (by rw [hO]; kernel_rfl) (.bool false) (fun K9 hK9 => by go_simp; exact hK9) ?_
      (try simp only [Act.put, pq1, pq2, pq3])
      refine wpList_val (by rw [hO]; kernel_rfl) (.bool false) (fun K9 hK9 => by go_simp; exact hK9) ?_
      (try simp only [Act.put, pq1, pq2, pq3])
      go_wp2
      go_meet
      case rel => exact ⟨rfl, rfl⟩
  case rest =>
    obtain ⟨rfl, hwx⟩ := hcut
    rw [hwx]
    clear hwx
    clear HQN HPN
    have cu := unpad_any w2 _ _ (padL b) (unhide HX2) (by rw [unhide HPL]; omega)
    rw [unhide HPL, unp_pad b (by rw [← unhide HN]; omega)] at cu
    go_wp2_with fail
    refine cu.mono ?_
    rintro e w3 ⟨⟨v3, rfl, ho3⟩, g3⟩
    clear cu
    obtain ⟨-, ua, uc, rfl, hU3, -⟩ := own_read ho3
    rw [← unhide HN]
    have HU3 := hide hU3
    have HX3 := hide ((unhide HX2).kept g3 (fun _ e => by cases e))
    have HG3 := hide (tn (unhide HG2) g3)
    clear ho3 hU3 g3
    go_upto_region 8 with fail
    refine region_named fun O hO => ?_
    refine wpList_want (by rw [hO]; kernel_rfl) fun K9 hK9 => ?_
    go_simp
    refine hK9 _ _ ?_
    clear hK9 K9
    (try simp only [Act.put, pq1, pq2, pq3])
    obtain ⟨W4, hW4, ho4, g4⟩ := own_new w3 w3.heap.size (Nat.le_refl _)
    rw [← hW4]
    have hx4 := (unhide HX3).kept g4 (fun _ e => by cases e)
    clear hW4
    refine wpList_val (by rw [hO]; kernel_rfl) (.slice (some ⟨xb, 0, none⟩) pn pn) (fun K9 hK9 => by go_simp; exact hK9) ?_
    (try simp only [Act.put, pq1, pq2, pq3])
    refine wpList_append_btm rfl _ _ rfl w3.heap.size _ 0 [] rfl ho4 _ _ (padL b) hx4 pn (unhide HPL).symm rfl (by omega) g4.size ?_
    intro v5 w5 ho5 g5
    have G5 := own_grow g4 ho4 g5
    clear g5 hx4
    (try simp only [Act.put, pq1, pq2, pq3])
    refine wpList_want (by rw [hO]; kernel_rfl) fun K9 hK9 => ?_
    go_simp
    refine hK9 _ _ ?_
    clear hK9 K9
    (try simp only [Act.put, pq1, pq2, pq3])
    obtain ⟨W6, hW6⟩ : ∃ W, W = w5.alloc (.cells #[.int .u8 0] 5) := ⟨_, rfl⟩
    rw [← hW6]
    have hB6 : Blk W6 w5.heap.size 5 (([0] : List UInt8).map bv) := by rw [hW6]; exact Blk.new _ _ _
    have g6 : w5.grownBy W6 none := by rw [hW6]; exact gb_alloc (gb_refl _ _) _
    clear hW6
    refine wpList_append_btm rfl _ _ rfl w3.heap.size _ (0 + pn) _ rfl (own_keep ho5 g6) _ _ [0] (bts_blk hB6 (by unfold maxLen; decide)) 1 rfl rfl (by omega) (Nat.le_trans G5.size g6.size) ?_
    intro v7 w7 ho7 g7
    have G7 := own_grow (tn G5 g6) (own_keep ho5 g6) g7
    obtain ⟨hlen7, za, zc, rfl, hz7, -⟩ := own_read (l := padL b ++ [0]) (by simpa using ho7)
    have cu7 := unpad_any w7 za zc _ hz7 (by rw [← hlen7]; omega)
    rw [← hlen7, unp_more] at cu7
    clear g7 ho7 hz7 hlen7
    (try simp only [Act.put, pq1, pq2, pq3])
    refine wpList_want (by rw [hO]; kernel_rfl) fun K9 hK9 => ?_
    go_simp
    go_at_call 9
    refine (cu7).mono ?_
    rintro e w8 ⟨rfl, g8⟩
    have G8 := tn (unhide HG3) (tn G7 g8)
    have hx8 := (unhide HX3).kept (tn G7 g8) (fun _ e => by cases e)
    have hu8 := (unhide HU3).kept (tn G7 g8) (fun _ e => by cases e)
    have HG8 := hide G8
    have HX8 := hide hx8
    have HU8 := hide hu8
    clear cu7 G7 g8 G5 g6 hB6 ho5 ho4 g4 G8 hx8 hu8
    refine hK9 _ _ ?_
    clear hK9 K9
    (try simp only [Act.put, pq1, pq2, pq3])
    refine wpList_val (by rw [hO]; kernel_rfl) (.tuple #[.slice none 0 0, .int .i64 (11)]) (fun K9 hK9 => by go_simp; exact hK9) ?_
    (try simp only [Act.put, pq1, pq2, pq3])
    refine wpList_val (by rw [hO]; kernel_rfl) (.slice none 0 0) (fun K9 hK9 => by go_simp; exact hK9) ?_
    (try simp only [Act.put, pq1, pq2, pq3])
    refine wpList_val (by rw [hO]; kernel_rfl) (.int .i64 (11)) (fun K9 hK9 => by go_simp; exact hK9) ?_
    (try simp only [Act.put, pq1, pq2, pq3])
    refine wpList_val (by rw [hO]; kernel_rfl) (.slice none 0 0) (fun K9 hK9 => by go_simp; exact hK9) ?_
    (try simp only [Act.put, pq1, pq2, pq3])
    refine wpList_val (by rw [hO]; kernel_rfl) (.int .i64 (11)) (fun K9 hK9 => by go_simp; exact hK9) ?_
    (try simp only [Act.put, pq1, pq2, pq3])
    go_upto_region 9 with fail
    refine region_named fun O hO => ?_
    refine wpList_want (by rw [hO]; kernel_rfl) fun K9 hK9 => ?_
    go_simp
    refine hK9 _ _ ?_
    clear hK9 K9
    (try simp only [Act.put, pq1, pq2, pq3])
    obtain ⟨W9, hW9, ho9, g9⟩ := own_new w8 w8.heap.size (Nat.le_refl _)
    rw [← hW9]
    have hx9 := (unhide HX8).kept g9 (fun _ e => by cases e)
    clear hW9
    refine wpList_val (by rw [hO]; kernel_rfl) (.slice (some ⟨xb, 0, none⟩) pn pn) (fun K9 hK9 => by go_simp; exact hK9) ?_
    (try simp only [Act.put, pq1, pq2, pq3])
    refine wpList_append_btm rfl _ _ rfl w8.heap.size _ 0 [] rfl ho9 _ _ (padL b) hx9 pn (unhide HPL).symm rfl (by omega) g9.size ?_
    intro v10 w10 ho10 g10
    have G10 := own_grow g9 ho9 g10
    rw [Nat.zero_add, List.nil_append] at ho10
    obtain ⟨zo, zc2, rfl, hzo⟩ := own_formC ho10
    obtain ⟨zg, rfl⟩ := hzo (by omega)
    clear g10 hx9 hzo ho9 g9
    (try simp only [Act.put, pq1, pq2, pq3])
    refine wpList_val (by rw [hO]; kernel_rfl) (.slice (some ⟨zg, 0, none⟩) pn zc2) (fun K9 hK9 => by go_simp; exact hK9) ?_
    (try simp only [Act.put, pq1, pq2, pq3])
    have G10' := tn (unhide HG8) G10
    have hU10 := (unhide HU8).kept G10 (fun _ e => by cases e)
    obtain ⟨x, hx, hcase⟩ : ∃ x, (padL b)[pn - 1]? = some x ∧ ((n + 4 = pn ∧ ∃ b', unpL ((padL b).set (pn - 1) (x + 1)) = some b' ∧ b' ≠ b ∧ b'.length = n) ∨ (n + 4 ≠ pn ∧ unpL ((padL b).set (pn - 1) (x + 1)) = none)) := by
      have e1 := unhide HN
      have e2 := unhide HPE
      by_cases hf : n + 4 = pn
      · obtain ⟨x, b', q1, q2, q3, q4⟩ := unp_full b (by rw [← e1, ← e2]; exact hf) (by rw [← e1]; omega)
        rw [← e1, ← e2] at q1 q2
        exact ⟨x, q1, Or.inl ⟨hf, b', q2, q3, by rw [q4, e1]⟩⟩
      · obtain ⟨q1, q2⟩ := unp_zero b (by rw [← e1, ← e2]; exact hf) (by rw [← e1]; omega)
        rw [← e1, ← e2] at q1 q2
        exact ⟨0, q1, Or.inr ⟨hf, q2⟩⟩
    obtain ⟨p1, hp1e⟩ : ∃ p, p = pn - 1 := ⟨_, rfl⟩
    have hp1i : (pn : Int) - 1 = (p1 : Int) := by omega
    have hp1l : p1 < pn := by omega
    have hwp : IntKind.i64.wrap ((pn : Int) - 1) = (p1 : Int) := by rw [IntKind.wrap_i64]; omega
    have hwq : IntKind.i64.wrap (p1 : Int) = (p1 : Int) := by rw [IntKind.wrap_i64]; omega
    have hp1li : (p1 : Int) < (pn : Int) := by omega
    rw [← hp1e] at hx hcase
    obtain ⟨hc10, hf10⟩ := own_there ho10 p1 (bv x) (by rw [List.getElem?_map, hx]; rfl)
    have hc10' : w10.cell? ⟨zg, p1, none⟩ = some (.int .u8 ((x.toNat : Nat) : Int)) := hc10
    have hup := u8_up x
    obtain ⟨xn, hxn⟩ : ∃ k : Nat, k = x.toNat := ⟨_, rfl⟩
    obtain ⟨yn, hyn⟩ : ∃ k : Nat, k = (x + 1).toNat := ⟨_, rfl⟩
    rw [← hxn] at hc10' hup
    rw [← hyn] at hup
    obtain ⟨W11, hW11⟩ : ∃ W, W = w10.setCell ⟨zg, p1, none⟩ (.int .u8 (yn : Int)) := ⟨_, rfl⟩
    have ho11 := own_set ho10 p1 (.int .u8 (yn : Int))
    rw [← hW11, show (Value.int .u8 (yn : Int)) = bv (x + 1) from by rw [hyn]; rfl, ← List.map_set] at ho11
    have hzg := (ho10.lt zg rfl).1
    have g11 : w8.grownBy W11 none := by rw [hW11]; exact gb_setCell G10 _ _ (Or.inl hzg)
    have HW11 := hide hW11
    have HO11 := hide ho11
    have HG11 := hide (tn (unhide HG8) g11)
    have HU11 := hide ((unhide HU8).kept g11 (fun _ e => by cases e))
    clear hc10 hx hxn hyn hW11 ho11 g11 ho10 hp1e G10 G10' hU10 hzg
    go_upto_region 10 with fail
    refine region_named fun O hO => ?_
    refine wpList_val (by rw [hO]; kernel_rfl) (.slice (some ⟨zg, 0, none⟩) pn zc2) (fun K9 hK9 => by go_simp; exact hK9) ?_
    (try simp only [Act.put, pq1, pq2, pq3])
    refine wpList_val (by rw [hO]; kernel_rfl) (.slice (some ⟨zg, 0, none⟩) pn zc2) (fun K9 hK9 => by go_simp; exact hK9) ?_
    (try simp only [Act.put, pq1, pq2, pq3])
    refine wpList_val (by rw [hO]; kernel_rfl) (.int .i64 (pn : Int)) (fun K9 hK9 => by go_simp; exact hK9) ?_
    (try simp only [Act.put, pq1, pq2, pq3])
    refine wpList_val (by rw [hO]; kernel_rfl) (.int .i64 ((p1 : Int))) (fun K9 hK9 => by go_simp; exact hK9) ?_
    (try simp only [Act.put, pq1, pq2, pq3])
    refine wpList_val (by rw [hO]; kernel_rfl) (.slice (some ⟨zg, 0, none⟩) pn zc2) (fun K9 hK9 => by go_simp; exact hK9) ?_
    (try simp only [Act.put, pq1, pq2, pq3])
    refine wpList_val (by rw [hO]; kernel_rfl) (.slice (some ⟨zg, 0, none⟩) pn zc2) (fun K9 hK9 => by go_simp; exact hK9) ?_
    (try simp only [Act.put, pq1, pq2, pq3])
    refine wpList_val (by rw [hO]; kernel_rfl) (.int .i64 (pn : Int)) (fun K9 hK9 => by go_simp; exact hK9) ?_
    (try simp only [Act.put, pq1, pq2, pq3])
    refine wpList_val (by rw [hO]; kernel_rfl) (.int .i64 ((p1 : Int))) (fun K9 hK9 => by go_simp; exact hK9) ?_
    (try simp only [Act.put, pq1, pq2, pq3])
    refine wpList_val (by rw [hO]; kernel_rfl) (.pointer (some ⟨zg, p1, none⟩)) (fun K9 hK9 => by go_simp; exact hK9) ?_
    (try simp only [Act.put, pq1, pq2, pq3])
    refine wpList_val (by rw [hO]; kernel_rfl) (.int .u8 (xn : Int)) (fun K9 hK9 => by go_simp; exact hK9) ?_
    (try simp only [Act.put, pq1, pq2, pq3])
    refine wpList_val (by rw [hO]; kernel_rfl) (.int .u8 (yn : Int)) (fun K9 hK9 => by go_simp; exact hK9) ?_
    (try simp only [Act.put, pq1, pq2, pq3])
    refine wpList_val (by rw [hO]; kernel_rfl) (.pointer (some ⟨zg, p1, none⟩)) (fun K9 hK9 => by go_simp; exact hK9) ?_
    (try simp only [Act.put, pq1, pq2, pq3])
    refine wpList_want (by rw [hO]; kernel_rfl) fun K9 hK9 => ?_
    go_simp
    refine hK9 _ _ ?_
    clear hK9 K9
    (try simp only [Act.put, pq1, pq2, pq3])
    rw [← unhide HW11]
    clear hc10' hf10 hup hp1i hp1l hp1li hwp hwq
    obtain ⟨-, ya, yc, hye, hY11, -⟩ := own_read (unhide HO11)
    injection hye with hy1 hy2 hy3
    subst hy1 hy3
    have hzl : ((padL b).set p1 (x + 1)).length = pn := by rw [List.length_set]; exact unhide HPL
    have cu := unpad_any W11 _ _ _ hY11 (by rw [hzl]; omega)
    rw [hzl] at cu
    have HCBx := hide ((unhide HB).kept (unhide HG11) (fun _ e => by cases e))
    clear hY11 hzl hy2
    rcases hcase with ⟨hf, b', hub, hne, hbl⟩ | ⟨hf, hub⟩
    · rw [hub] at cu
      have HF := hide hf
      have HBL := hide hbl
      have HNE := hide hne
      clear hf hbl hub hne
      go_wp2_with fail
      refine cu.mono ?_
      rintro e w12 ⟨⟨v12, rfl, ho12⟩, g12⟩
      clear cu
      obtain ⟨-, va, vc, rfl, hV12, -⟩ := own_read ho12
      rw [unhide HBL]
      have hf := unhide HF
      have hfi : (n : Int) + 4 = (pn : Int) := by omega
      have hwr : IntKind.i64.wrap ((n : Int) + 4) = (pn : Int) := by rw [IntKind.wrap_i64]; omega
      have HG12 := hide (tn (unhide HG11) g12)
      have cU := conv_str ((unhide HU11).kept g12 (fun _ e => by cases e))
      have cB := conv_str ((unhide HCBx).kept g12 (fun _ e => by cases e))
      have cV := conv_str hV12
      rw [← unhide HN] at cU cB
      rw [unhide HBL] at cV
      obtain ⟨SB, hSB⟩ : ∃ S, S = str b := ⟨_, rfl⟩
      obtain ⟨SV, hSV⟩ : ∃ S, S = str b' := ⟨_, rfl⟩
      rw [← hSB] at cU cB
      rw [← hSV] at cV
      have hq : ¬ SV.toList = SB.toList := by rw [hSV, hSB, str_list, str_list]; exact unhide HNE
      have hqb : (SV.toList == SB.toList) = false := by simpa using hq
      have HCU := hide cU
      have HCB := hide cB
      have HCV := hide cV
      clear cU cB cV hSB hSV hf ho12 hV12 g12
      go_upto_region 13 with fail
      refine region_named fun O hO => ?_
      refine wpList_val (by rw [hO]; kernel_rfl) (.int .i64 (0)) (fun K9 hK9 => by go_simp; exact hK9) ?_
      (try simp only [Act.put, pq1, pq2, pq3])
      refine wpList_val (by rw [hO]; kernel_rfl) (.bool true) (fun K9 hK9 => by go_simp; exact hK9) ?_
      (try simp only [Act.put, pq1, pq2, pq3])
      refine wpList_val (by rw [hO]; kernel_rfl) (.bool true) (fun K9 hK9 => by go_simp; exact hK9) ?_
      (try simp only [Act.put, pq1, pq2, pq3])
      refine wpList_val (by rw [hO]; kernel_rfl) (.slice ua n uc) (fun K9 hK9 => by go_simp; exact hK9) ?_
      (try simp only [Act.put, pq1, pq2, pq3])
      refine wpList_val (by rw [hO]; kernel_rfl) (.string SB) (fun K9 hK9 => by (have z9 := unhide HCU; go_simp); exact hK9) ?_
      (try simp only [Act.put, pq1, pq2, pq3])
      refine wpList_val (by rw [hO]; kernel_rfl) (.slice ao n c) (fun K9 hK9 => by go_simp; exact hK9) ?_
      (try simp only [Act.put, pq1, pq2, pq3])
      refine wpList_val (by rw [hO]; kernel_rfl) (.string SB) (fun K9 hK9 => by (have z9 := unhide HCB; go_simp); exact hK9) ?_
      (try simp only [Act.put, pq1, pq2, pq3])
      refine wpList_val (by rw [hO]; kernel_rfl) (.bool true) (fun K9 hK9 => by go_simp; exact hK9) ?_
      (try simp only [Act.put, pq1, pq2, pq3])
      refine wpList_val (by rw [hO]; kernel_rfl) (.bool true) (fun K9 hK9 => by go_simp; exact hK9) ?_
      (try simp only [Act.put, pq1, pq2, pq3])
      refine wpList_val (by rw [hO]; kernel_rfl) (.bool true) (fun K9 hK9 => by go_simp; exact hK9) ?_
      (try simp only [Act.put, pq1, pq2, pq3])
      refine wpList_val (by rw [hO]; kernel_rfl) (.int .i64 (11)) (fun K9 hK9 => by go_simp; exact hK9) ?_
      (try simp only [Act.put, pq1, pq2, pq3])
      refine wpList_val (by rw [hO]; kernel_rfl) (.bool true) (fun K9 hK9 => by go_simp; exact hK9) ?_
      (try simp only [Act.put, pq1, pq2, pq3])
      refine wpList_val (by rw [hO]; kernel_rfl) (.bool true) (fun K9 hK9 => by go_simp; exact hK9) ?_
      (try simp only [Act.put, pq1, pq2, pq3])
      refine wpList_val (by rw [hO]; kernel_rfl) (.bool true) (fun K9 hK9 => by go_simp; exact hK9) ?_
      (try simp only [Act.put, pq1, pq2, pq3])
      refine wpList_val (by rw [hO]; kernel_rfl) (.int .i64 (0)) (fun K9 hK9 => by go_simp; exact hK9) ?_
      (try simp only [Act.put, pq1, pq2, pq3])
      refine wpList_val (by rw [hO]; kernel_rfl) (.bool true) (fun K9 hK9 => by go_simp; exact hK9) ?_
      (try simp only [Act.put, pq1, pq2, pq3])
      refine wpList_val (by rw [hO]; kernel_rfl) (.bool true) (fun K9 hK9 => by go_simp; exact hK9) ?_
      (try simp only [Act.put, pq1, pq2, pq3])
      refine wpList_val (by rw [hO]; kernel_rfl) (.bool true) (fun K9 hK9 => by go_simp; exact hK9) ?_
      (try simp only [Act.put, pq1, pq2, pq3])
      refine wpList_val (by rw [hO]; kernel_rfl) (.bool true) (fun K9 hK9 => by go_simp; exact hK9) ?_
      (try simp only [Act.put, pq1, pq2, pq3])
      refine wpList_val (by rw [hO]; kernel_rfl) (.bool true) (fun K9 hK9 => by go_simp; exact hK9) ?_
      (try simp only [Act.put, pq1, pq2, pq3])
      refine wpList_val (by rw [hO]; kernel_rfl) (.bool true) (fun K9 hK9 => by go_simp; exact hK9) ?_
      (try simp only [Act.put, pq1, pq2, pq3])
      refine wpList_val (by rw [hO]; kernel_rfl) (.bool false) (fun K9 hK9 => by go_simp; exact hK9) ?_
      (try simp only [Act.put, pq1, pq2, pq3])
      refine wpList_val (by rw [hO]; kernel_rfl) (.bool false) (fun K9 hK9 => by go_simp; exact hK9) ?_
      (try simp only [Act.put, pq1, pq2, pq3])
      refine wpList_val (by rw [hO]; kernel_rfl) (.slice va n vc) (fun K9 hK9 => by go_simp; exact hK9) ?_
      (try simp only [Act.put, pq1, pq2, pq3])
      refine wpList_val (by rw [hO]; kernel_rfl) (.string SV) (fun K9 hK9 => by (have z9 := unhide HCV; go_simp); exact hK9) ?_
      (try simp only [Act.put, pq1, pq2, pq3])
      refine wpList_val (by rw [hO]; kernel_rfl) (.slice ao n c) (fun K9 hK9 => by go_simp; exact hK9) ?_
      (try simp only [Act.put, pq1, pq2, pq3])
      refine wpList_val (by rw [hO]; kernel_rfl) (.string SB) (fun K9 hK9 => by (have z9 := unhide HCB; go_simp); exact hK9) ?_
      (try simp only [Act.put, pq1, pq2, pq3])
      refine wpList_val (by rw [hO]; kernel_rfl) (.bool true) (fun K9 hK9 => by go_simp; exact hK9) ?_
      (try simp only [Act.put, pq1, pq2, pq3])
      refine wpList_val (by rw [hO]; kernel_rfl) (.bool true) (fun K9 hK9 => by go_simp; exact hK9) ?_
      (try simp only [Act.put, pq1, pq2, pq3])
      refine wpList_val (by rw [hO]; kernel_rfl) (.bool true) (fun K9 hK9 => by go_simp; exact hK9) ?_
      (try simp only [Act.put, pq1, pq2, pq3])
      refine wpList_val (by rw [hO]; kernel_rfl) (.bool true) (fun K9 hK9 => by go_simp; exact hK9) ?_
      (try simp only [Act.put, pq1, pq2, pq3])
      refine wpList_want (by rw [hO]; kernel_rfl) fun K9 hK9 => ?_
      go_simp
      go_at_call 15
      refine (ckone_any w12).mono ?_
      rintro e w9 ⟨rfl, g9⟩
      have G9 := tn (unhide HG12) g9
      refine hK9 _ _ ?_
      clear hK9 K9
      (try simp only [Act.put, pq1, pq2, pq3])
      refine wpList_val (by rw [hO]; kernel_rfl) (.bool true) (fun K9 hK9 => by go_simp; exact hK9) ?_
      (try simp only [Act.put, pq1, pq2, pq3])
      refine wpList_val (by rw [hO]; kernel_rfl) (.bool true) (fun K9 hK9 => by go_simp; exact hK9) ?_
      (try simp only [Act.put, pq1, pq2, pq3])
      go_wp2
      go_ret
      exact ⟨rfl, G9⟩
    · rw [hub] at cu
      clear hub
      go_wp2_with fail
      refine cu.mono ?_
      rintro e w12 ⟨rfl, g12⟩
      clear cu
      have hfi : ¬ (n : Int) + 4 = (pn : Int) := by omega
      have hfj : (((n : Int) + 4) == (pn : Int)) = false := by simp; omega
      have hwr : IntKind.i64.wrap ((n : Int) + 4) = (n : Int) + 4 := by rw [IntKind.wrap_i64]; omega
      have HG12 := hide (tn (unhide HG11) g12)
      have cU := conv_str ((unhide HU11).kept g12 (fun _ e => by cases e))
      have cB := conv_str ((unhide HCBx).kept g12 (fun _ e => by cases e))
      rw [← unhide HN] at cU cB
      obtain ⟨SB, hSB⟩ : ∃ S, S = str b := ⟨_, rfl⟩
      rw [← hSB] at cU cB
      have HCU := hide cU
      have HCB := hide cB
      clear cU cB hSB g12
      go_upto_region 13 with fail
      refine region_named fun O hO => ?_
      refine wpList_val (by rw [hO]; kernel_rfl) (.int .i64 (0)) (fun K9 hK9 => by go_simp; exact hK9) ?_
      (try simp only [Act.put, pq1, pq2, pq3])
      refine wpList_val (by rw [hO]; kernel_rfl) (.bool true) (fun K9 hK9 => by go_simp; exact hK9) ?_
      (try simp only [Act.put, pq1, pq2, pq3])
      refine wpList_val (by rw [hO]; kernel_rfl) (.bool true) (fun K9 hK9 => by go_simp; exact hK9) ?_
      (try simp only [Act.put, pq1, pq2, pq3])
      refine wpList_val (by rw [hO]; kernel_rfl) (.slice ua n uc) (fun K9 hK9 => by go_simp; exact hK9) ?_
      (try simp only [Act.put, pq1, pq2, pq3])
      refine wpList_val (by rw [hO]; kernel_rfl) (.string SB) (fun K9 hK9 => by (have z9 := unhide HCU; go_simp); exact hK9) ?_
      (try simp only [Act.put, pq1, pq2, pq3])
      refine wpList_val (by rw [hO]; kernel_rfl) (.slice ao n c) (fun K9 hK9 => by go_simp; exact hK9) ?_
      (try simp only [Act.put, pq1, pq2, pq3])
      refine wpList_val (by rw [hO]; kernel_rfl) (.string SB) (fun K9 hK9 => by (have z9 := unhide HCB; go_simp); exact hK9) ?_
      (try simp only [Act.put, pq1, pq2, pq3])
      refine wpList_val (by rw [hO]; kernel_rfl) (.bool true) (fun K9 hK9 => by go_simp; exact hK9) ?_
      (try simp only [Act.put, pq1, pq2, pq3])
      refine wpList_val (by rw [hO]; kernel_rfl) (.bool true) (fun K9 hK9 => by go_simp; exact hK9) ?_
      (try simp only [Act.put, pq1, pq2, pq3])
      refine wpList_val (by rw [hO]; kernel_rfl) (.bool true) (fun K9 hK9 => by go_simp; exact hK9) ?_
      (try simp only [Act.put, pq1, pq2, pq3])
      refine wpList_val (by rw [hO]; kernel_rfl) (.int .i64 (11)) (fun K9 hK9 => by go_simp; exact hK9) ?_
      (try simp only [Act.put, pq1, pq2, pq3])
      refine wpList_val (by rw [hO]; kernel_rfl) (.bool true) (fun K9 hK9 => by go_simp; exact hK9) ?_
      (try simp only [Act.put, pq1, pq2, pq3])
      refine wpList_val (by rw [hO]; kernel_rfl) (.bool true) (fun K9 hK9 => by go_simp; exact hK9) ?_
      (try simp only [Act.put, pq1, pq2, pq3])
      refine wpList_val (by rw [hO]; kernel_rfl) (.bool true) (fun K9 hK9 => by go_simp; exact hK9) ?_
      (try simp only [Act.put, pq1, pq2, pq3])
      refine wpList_val (by rw [hO]; kernel_rfl) (.int .i64 (11)) (fun K9 hK9 => by go_simp; exact hK9) ?_
      (try simp only [Act.put, pq1, pq2, pq3])
      refine wpList_val (by rw [hO]; kernel_rfl) (.bool false) (fun K9 hK9 => by go_simp; exact hK9) ?_
      (try simp only [Act.put, pq1, pq2, pq3])
      refine wpList_val (by rw [hO]; kernel_rfl) (.bool false) (fun K9 hK9 => by go_simp; exact hK9) ?_
      (try simp only [Act.put, pq1, pq2, pq3])
      refine wpList_val (by rw [hO]; kernel_rfl) (.bool true) (fun K9 hK9 => by go_simp; exact hK9) ?_
      (try simp only [Act.put, pq1, pq2, pq3])
      refine wpList_val (by rw [hO]; kernel_rfl) (.bool true) (fun K9 hK9 => by go_simp; exact hK9) ?_
      (try simp only [Act.put, pq1, pq2, pq3])
      refine wpList_val (by rw [hO]; kernel_rfl) (.bool true) (fun K9 hK9 => by go_simp; exact hK9) ?_
      (try simp only [Act.put, pq1, pq2, pq3])
      refine wpList_val (by rw [hO]; kernel_rfl) (.bool false) (fun K9 hK9 => by go_simp; exact hK9) ?_
      (try simp only [Act.put, pq1, pq2, pq3])
      refine wpList_val (by rw [hO]; kernel_rfl) (.bool true) (fun K9 hK9 => by go_simp; exact hK9) ?_
      (try simp only [Act.put, pq1, pq2, pq3])
      refine wpList_val (by rw [hO]; kernel_rfl) (.bool true) (fun K9 hK9 => by go_simp; exact hK9) ?_
      (try simp only [Act.put, pq1, pq2, pq3])
      refine wpList_skip (by rw [hO]; kernel_rfl) ?_
      (try simp only [Act.put, pq1, pq2, pq3])
      refine wpList_skip (by rw [hO]; kernel_rfl) ?_
      (try simp only [Act.put, pq1, pq2, pq3])
      refine wpList_skip (by rw [hO]; kernel_rfl) ?_
      (try simp only [Act.put, pq1, pq2, pq3])
      refine wpList_skip (by rw [hO]; kernel_rfl) ?_
      (try simp only [Act.put, pq1, pq2, pq3])
      refine wpList_skip (by rw [hO]; kernel_rfl) ?_
      (try simp only [Act.put, pq1, pq2, pq3])
      refine wpList_val (by rw [hO]; kernel_rfl) (.bool true) (fun K9 hK9 => by go_simp; exact hK9) ?_
      (try simp only [Act.put, pq1, pq2, pq3])
      refine wpList_val (by rw [hO]; kernel_rfl) (.bool true) (fun K9 hK9 => by go_simp; exact hK9) ?_
      (try simp only [Act.put, pq1, pq2, pq3])
      refine wpList_val (by rw [hO]; kernel_rfl) (.bool true) (fun K9 hK9 => by go_simp; exact hK9) ?_
      (try simp only [Act.put, pq1, pq2, pq3])
      refine wpList_want (by rw [hO]; kernel_rfl) fun K9 hK9 => ?_
      go_simp
      go_at_call 15
      refine (ckone_any w12).mono ?_
      rintro e w9 ⟨rfl, g9⟩
      have G9 := tn (unhide HG12) g9
      refine hK9 _ _ ?_
      clear hK9 K9
      (try simp only [Act.put, pq1, pq2, pq3])
      refine wpList_val (by rw [hO]; kernel_rfl) (.bool true) (fun K9 hK9 => by go_simp; exact hK9) ?_
      (try simp only [Act.put, pq1, pq2, pq3])
      refine wpList_val (by rw [hO]; kernel_rfl) (.bool true) (fun K9 hK9 => by go_simp; exact hK9) ?_
      (try simp only [Act.put, pq1, pq2, pq3])
      go_wp2
      go_ret
      exact ⟨rfl, G9⟩

end Go.Proofs.Ytadkpkdojbhigaa
