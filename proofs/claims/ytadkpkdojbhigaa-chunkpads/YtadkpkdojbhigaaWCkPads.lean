/- The walk of ChunkPads. -/
import Derived.Test.YtadkpkdojbhigaaCkO
import Derived.Test.YtadkpkdojbhigaaCkR
import Derived.Test.YtadkpkdojbhigaaMGrd
import Derived.Deep.DeepCutAuto
namespace Go.Proofs.Ytadkpkdojbhigaa
open Go.RowKit

/-- .. of at most 3000 bytes, behind the cut. -/
theorem unp_open {w w' : World} {e : Ending} {r : Option (List UInt8)} (h : unpO w w' e r) : (r = none ∧ e = .returned (.tuple #[.slice none 0 0, .int .i64 11])) ∨ ∃ l ua uc, r = some l ∧ e = .returned (.tuple #[.slice ua l.length uc, .int .i64 0]) ∧ Bts w' ua uc l := by
  cases r with
  | none => exact Or.inl ⟨rfl, h⟩
  | some l =>
    obtain ⟨v, h1, h2⟩ := h
    obtain ⟨_, ao, c, rfl, hb, _⟩ := own_read h2
    exact Or.inr ⟨l, ao, c, rfl, h1, hb⟩

set_option maxRecDepth 100000 in
set_option maxHeartbeats 4000000 in
theorem walk_pads (w : World) (ao0 : Option Addr) (c0 : Nat) (b0 : List UInt8) (hb0 : Bts w ao0 c0 b0) (z : Int) : Calls Try.prog 3 #[.slice ao0 b0.length c0, .int .i64 z] w fun e w' => e = .returned (.bool true) ∧ w.grownBy w' none := by
  obtain ⟨n0, hn0⟩ : ∃ n, n = b0.length := ⟨_, rfl⟩
  rw [← hn0]
  obtain ⟨ao, c, b, hb, n, hn, hle, hcase⟩ : ∃ ao c b, Bts w ao c b ∧ ∃ n, n = b.length ∧ n ≤ 3000 ∧ ((n0 ≤ 3000 ∧ ao = ao0 ∧ c = c0 ∧ n = n0) ∨ (3000 < n0 ∧ ao = ao0 ∧ c = c0 ∧ n = 3000)) := by
    by_cases h : n0 ≤ 3000
    · exact ⟨ao0, c0, b0, hb0, n0, hn0, h, Or.inl ⟨h, rfl, rfl, rfl⟩⟩
    · exact ⟨ao0, c0, b0.take 3000, hb0.take 3000 (by omega), 3000, by simp; omega, Nat.le_refl _, Or.inr ⟨by omega, rfl, rfl, rfl⟩⟩
  have s1 := fun W (h : 3000 < n0) => slice_to (P := Try.prog) W 22 5 Try.underlying22 size_byte ao0 n0 c0 3000 (by have := hb0.fits; omega)
  have cpad := pad_any w ao c b hb (by omega)
  rw [← hn] at cpad
  obtain ⟨pn, hpn⟩ : ∃ p, p = pdN n := ⟨_, rfl⟩
  rw [← hpn] at cpad
  have HPN : Hid (∀ W, Calls Try.prog 11 #[.int .i64 (n : Int)] W fun e w' => e = .returned (.int .i64 (pn : Int)) ∧ w' = W) := fun W => by
    have := padded_any W (n : Int)
    rw [pdI_nat n (by omega), ← hpn] at this
    exact this
  have HB := hide hb
  have HN := hide hn
  have HPE := hide hpn
  clear hb hn hpn hb0 hn0 b0
  go_enter Try.func3, Try.ntmps3
  go_upto_if 15 with fail
  go_cut [0] (fun v wx => v = .slice ao n c ∧ wx = w)
  case first =>
    clear cpad HPN HPE
    rcases hcase with ⟨h1, rfl, rfl, rfl⟩ | ⟨h1, rfl, rfl, rfl⟩
    · have h2 : ¬ 3000 < n := by omega
      have h3 : ¬ (3000 : Int) < (n : Int) := by omega
      go_wp2
      go_meet
      case rel => exact ⟨rfl, rfl⟩
    · have h3 : (3000 : Int) < (n0 : Int) := by omega
      have s2 : ∀ W, (Instr.slice 22 (.slice ao n0 c) none (some (.int .i64 3000)) none).run Try.prog W = .ok (.slice ao 3000 c) W := fun W => s1 W h1
      clear s1
      go_wp2
      go_meet
      case rel => exact ⟨rfl, rfl⟩
  case rest =>
    obtain ⟨rfl, hwx⟩ := hcut
    subst hwx
    clear hcase s1
    go_wp2_with fail
    refine cpad.mono ?_
    rintro e w1 ⟨xb, rfl, hxb, hX, g1⟩
    clear cpad
    have cv1 := conv_str ((unhide HB).kept g1 (fun _ e => by cases e))
    rw [← unhide HN] at cv1
    have cr1 := rpad_any w1 b (by rw [← unhide HN]; omega)
    obtain ⟨SB, hSB⟩ : ∃ S, S = str b := ⟨_, rfl⟩
    obtain ⟨SP, hSP⟩ : ∃ S, S = str (padL b) := ⟨_, rfl⟩
    rw [← hSB] at cv1 cr1
    rw [← hSP] at cr1
    have HSB := hide hSB
    have HSP := hide hSP
    clear hSB hSP
    go_wp2_with fail
    refine cr1.mono ?_
    rintro e w2 ⟨rfl, g2⟩
    clear cr1 cv1
    have G2 := tn g1 g2
    have cu := unpad_any w2 ao c b ((unhide HB).kept G2 (fun _ e => by cases e)) (by rw [← unhide HN]; omega)
    rw [← unhide HN] at cu
    go_wp2_with fail
    refine cu.mono ?_
    rintro e w3 ⟨hu, g3⟩
    clear cu
    have G3 := tn G2 g3
    have cv3 := conv_str ((unhide HB).kept G3 (fun _ e => by cases e))
    have cr3 := runpad_any w3 b (by rw [← unhide HN]; omega)
    rw [← unhide HN] at cv3
    rw [← unhide HSB] at cv3 cr3
    have hXt := hX.kept (tn g2 g3) (by simp)
    have HX := hide hXt
    have hpl : (padL b).length = pn := by rw [padL_length, ← unhide HN, unhide HPE]
    have HPL := hide hpl
    clear hX hXt hpl
    rcases unp_open hu with ⟨h0, rfl⟩ | ⟨l, ua, uc, h0, rfl, hU⟩
    · rw [h0] at cr3
      clear hu h0
      go_wp2_with fail
      refine cr3.mono ?_
      rintro e w5 ⟨rfl, g5⟩
      clear cr3 cv3
      have HG5 := hide (tn G3 g5)
      have cx := conv_str (bts_blk ((unhide HX).kept g5 (by simp)) (by rw [unhide HPL]; unfold maxLen; have := pdN_lt n; have := unhide HPE; omega))
      rw [unhide HPL, ← unhide HSP] at cx
      have HCP := hide cx
      have cy := conv_str (Bts.nil w5)
      obtain ⟨SU, hSU⟩ : ∃ S, S = str [] := ⟨_, rfl⟩
      rw [← hSU] at cy
      have HCU : Hid ((convert 22 9 (.slice none 0 0)).run Try.prog w5 = .ok (.string SU) w5) := cy
      have hV : runpV none = .tuple #[.string SU, .int .i64 11] := by rw [hSU]; rfl
      rw [hV]
      clear cx cy hSU hV
      go_upto_region 7 with fail
      refine region_named fun O hO => ?_
      refine wpList_val (by rw [hO]; kernel_rfl) (.slice (some ⟨xb, 0, none⟩) pn pn) (fun K9 hK9 => by go_simp; exact hK9) ?_
      (try simp only [Act.put, pq1, pq2, pq3])
      refine wpList_val (by rw [hO]; kernel_rfl) (.string SP) (fun K9 hK9 => by (have z9 := unhide HCP; go_simp); exact hK9) ?_
      (try simp only [Act.put, pq1, pq2, pq3])
      refine wpList_val (by rw [hO]; kernel_rfl) (.string SP) (fun K9 hK9 => by go_simp; exact hK9) ?_
      (try simp only [Act.put, pq1, pq2, pq3])
      refine wpList_val (by rw [hO]; kernel_rfl) (.bool true) (fun K9 hK9 => by go_simp; exact hK9) ?_
      (try simp only [Act.put, pq1, pq2, pq3])
      refine wpList_val (by rw [hO]; kernel_rfl) (.bool true) (fun K9 hK9 => by go_simp; exact hK9) ?_
      (try simp only [Act.put, pq1, pq2, pq3])
      refine wpList_val (by rw [hO]; kernel_rfl) (.int .i64 (0)) (fun K9 hK9 => by go_simp; exact hK9) ?_
      (try simp only [Act.put, pq1, pq2, pq3])
      refine wpList_val (by rw [hO]; kernel_rfl) (.int .i64 (0)) (fun K9 hK9 => by go_simp; exact hK9) ?_
      (try simp only [Act.put, pq1, pq2, pq3])
      refine wpList_val (by rw [hO]; kernel_rfl) (.bool true) (fun K9 hK9 => by go_simp; exact hK9) ?_
      (try simp only [Act.put, pq1, pq2, pq3])
      refine wpList_val (by rw [hO]; kernel_rfl) (.bool true) (fun K9 hK9 => by go_simp; exact hK9) ?_
      (try simp only [Act.put, pq1, pq2, pq3])
      refine wpList_val (by rw [hO]; kernel_rfl) (.bool true) (fun K9 hK9 => by go_simp; exact hK9) ?_
      (try simp only [Act.put, pq1, pq2, pq3])
      refine wpList_val (by rw [hO]; kernel_rfl) (.slice none 0 0) (fun K9 hK9 => by go_simp; exact hK9) ?_
      (try simp only [Act.put, pq1, pq2, pq3])
      refine wpList_val (by rw [hO]; kernel_rfl) (.string SU) (fun K9 hK9 => by (have z9 := unhide HCU; go_simp); exact hK9) ?_
      (try simp only [Act.put, pq1, pq2, pq3])
      refine wpList_val (by rw [hO]; kernel_rfl) (.string SU) (fun K9 hK9 => by go_simp; exact hK9) ?_
      (try simp only [Act.put, pq1, pq2, pq3])
      refine wpList_val (by rw [hO]; kernel_rfl) (.bool true) (fun K9 hK9 => by go_simp; exact hK9) ?_
      (try simp only [Act.put, pq1, pq2, pq3])
      refine wpList_val (by rw [hO]; kernel_rfl) (.bool true) (fun K9 hK9 => by go_simp; exact hK9) ?_
      (try simp only [Act.put, pq1, pq2, pq3])
      refine wpList_val (by rw [hO]; kernel_rfl) (.bool true) (fun K9 hK9 => by go_simp; exact hK9) ?_
      (try simp only [Act.put, pq1, pq2, pq3])
      refine wpList_val (by rw [hO]; kernel_rfl) (.int .i64 (11)) (fun K9 hK9 => by go_simp; exact hK9) ?_
      (try simp only [Act.put, pq1, pq2, pq3])
      refine wpList_val (by rw [hO]; kernel_rfl) (.int .i64 (11)) (fun K9 hK9 => by go_simp; exact hK9) ?_
      (try simp only [Act.put, pq1, pq2, pq3])
      refine wpList_val (by rw [hO]; kernel_rfl) (.bool true) (fun K9 hK9 => by go_simp; exact hK9) ?_
      (try simp only [Act.put, pq1, pq2, pq3])
      refine wpList_val (by rw [hO]; kernel_rfl) (.bool true) (fun K9 hK9 => by go_simp; exact hK9) ?_
      (try simp only [Act.put, pq1, pq2, pq3])
      refine wpList_val (by rw [hO]; kernel_rfl) (.bool true) (fun K9 hK9 => by go_simp; exact hK9) ?_
      (try simp only [Act.put, pq1, pq2, pq3])
      refine wpList_val (by rw [hO]; kernel_rfl) (.int .i64 (z)) (fun K9 hK9 => by go_simp; exact hK9) ?_
      (try simp only [Act.put, pq1, pq2, pq3])
      refine wpList_want (by rw [hO]; kernel_rfl) fun K9 hK9 => ?_
      go_simp
      go_at_call 11
      refine (padded_any w5 z).mono ?_
      rintro e w9 ⟨rfl, hw9⟩
      subst w9
      refine hK9 _ _ ?_
      clear hK9 K9
      (try simp only [Act.put, pq1, pq2, pq3])
      refine wpList_val (by rw [hO]; kernel_rfl) (.int .i64 (z)) (fun K9 hK9 => by go_simp; exact hK9) ?_
      (try simp only [Act.put, pq1, pq2, pq3])
      refine wpList_want (by rw [hO]; kernel_rfl) fun K9 hK9 => ?_
      go_simp
      go_at_call 12
      refine (rpadded_any w5 z).mono ?_
      rintro e w9 ⟨rfl, hw9⟩
      subst w9
      refine hK9 _ _ ?_
      clear hK9 K9
      (try simp only [Act.put, pq1, pq2, pq3])
      refine wpList_val (by rw [hO]; kernel_rfl) (.bool true) (fun K9 hK9 => by go_simp; exact hK9) ?_
      (try simp only [Act.put, pq1, pq2, pq3])
      refine wpList_val (by rw [hO]; kernel_rfl) (.bool true) (fun K9 hK9 => by go_simp; exact hK9) ?_
      (try simp only [Act.put, pq1, pq2, pq3])
      refine wpList_val (by rw [hO]; kernel_rfl) (.bool true) (fun K9 hK9 => by go_simp; exact hK9) ?_
      (try simp only [Act.put, pq1, pq2, pq3])
      refine wpList_val (by rw [hO]; kernel_rfl) (.int .i64 (z)) (fun K9 hK9 => by go_simp; exact hK9) ?_
      (try simp only [Act.put, pq1, pq2, pq3])
      refine wpList_want (by rw [hO]; kernel_rfl) fun K9 hK9 => ?_
      go_simp
      go_at_call 13
      refine (count_any w5 z).mono ?_
      rintro e w9 ⟨rfl, hw9⟩
      subst w9
      refine hK9 _ _ ?_
      clear hK9 K9
      (try simp only [Act.put, pq1, pq2, pq3])
      refine wpList_val (by rw [hO]; kernel_rfl) (.int .i64 (z)) (fun K9 hK9 => by go_simp; exact hK9) ?_
      (try simp only [Act.put, pq1, pq2, pq3])
      refine wpList_want (by rw [hO]; kernel_rfl) fun K9 hK9 => ?_
      go_simp
      go_at_call 14
      refine (rcount_any w5 z).mono ?_
      rintro e w9 ⟨rfl, hw9⟩
      subst w9
      refine hK9 _ _ ?_
      clear hK9 K9
      (try simp only [Act.put, pq1, pq2, pq3])
      refine wpList_val (by rw [hO]; kernel_rfl) (.bool true) (fun K9 hK9 => by go_simp; exact hK9) ?_
      (try simp only [Act.put, pq1, pq2, pq3])
      refine wpList_val (by rw [hO]; kernel_rfl) (.bool true) (fun K9 hK9 => by go_simp; exact hK9) ?_
      (try simp only [Act.put, pq1, pq2, pq3])
      refine wpList_val (by rw [hO]; kernel_rfl) (.bool true) (fun K9 hK9 => by go_simp; exact hK9) ?_
      (try simp only [Act.put, pq1, pq2, pq3])
      refine wpList_val (by rw [hO]; kernel_rfl) (.slice ao n c) (fun K9 hK9 => by go_simp; exact hK9) ?_
      (try simp only [Act.put, pq1, pq2, pq3])
      refine wpList_val (by rw [hO]; kernel_rfl) (.int .i64 (n : Int)) (fun K9 hK9 => by go_simp; exact hK9) ?_
      (try simp only [Act.put, pq1, pq2, pq3])
      refine wpList_want (by rw [hO]; kernel_rfl) fun K9 hK9 => ?_
      go_simp
      go_at_call 11
      refine (unhide HPN w5).mono ?_
      rintro e w9 ⟨rfl, hw9⟩
      subst w9
      refine hK9 _ _ ?_
      clear hK9 K9
      (try simp only [Act.put, pq1, pq2, pq3])
      refine wpList_val (by rw [hO]; kernel_rfl) (.slice (some ⟨xb, 0, none⟩) pn pn) (fun K9 hK9 => by go_simp; exact hK9) ?_
      (try simp only [Act.put, pq1, pq2, pq3])
      refine wpList_val (by rw [hO]; kernel_rfl) (.int .i64 (pn : Int)) (fun K9 hK9 => by go_simp; exact hK9) ?_
      (try simp only [Act.put, pq1, pq2, pq3])
      refine wpList_val (by rw [hO]; kernel_rfl) (.bool true) (fun K9 hK9 => by go_simp; exact hK9) ?_
      (try simp only [Act.put, pq1, pq2, pq3])
      refine wpList_val (by rw [hO]; kernel_rfl) (.bool true) (fun K9 hK9 => by go_simp; exact hK9) ?_
      (try simp only [Act.put, pq1, pq2, pq3])
      refine wpList_val (by rw [hO]; kernel_rfl) (.bool true) (fun K9 hK9 => by go_simp; exact hK9) ?_
      (try simp only [Act.put, pq1, pq2, pq3])
      refine wpList_want (by rw [hO]; kernel_rfl) fun K9 hK9 => ?_
      go_simp
      go_at_call 15
      refine (ckone_any w5).mono ?_
      rintro e w9 ⟨rfl, g9⟩
      have G9 := tn (unhide HG5) g9
      refine hK9 _ _ ?_
      clear hK9 K9
      (try simp only [Act.put, pq1, pq2, pq3])
      refine wpList_val (by rw [hO]; kernel_rfl) (.bool true) (fun K9 hK9 => by go_simp; exact hK9) ?_
      (try simp only [Act.put, pq1, pq2, pq3])
      refine wpList_val (by rw [hO]; kernel_rfl) (.bool true) (fun K9 hK9 => by go_simp; exact hK9) ?_
      (try simp only [Act.put, pq1, pq2, pq3])
      go_wp2
      go_ret
      exact ⟨rfl, G9⟩
    · rw [h0] at cr3
      have hul : l.length ≤ 3000 := by
        obtain ⟨_, h2, _, h4⟩ := pad_unp b l h0
        rw [← unhide HN] at h4
        omega
      obtain ⟨un, hun⟩ : ∃ u, u = l.length := ⟨_, rfl⟩
      rw [← hun]
      have HUN := hide hun
      clear hu h0 hun
      go_wp2_with fail
      refine cr3.mono ?_
      rintro e w5 ⟨rfl, g5⟩
      clear cr3 cv3
      have HG5 := hide (tn G3 g5)
      have cx := conv_str (bts_blk ((unhide HX).kept g5 (by simp)) (by rw [unhide HPL]; unfold maxLen; have := pdN_lt n; have := unhide HPE; omega))
      rw [unhide HPL, ← unhide HSP] at cx
      have HCP := hide cx
      have cy := conv_str (hU.kept g5 (fun _ e => by cases e))
      obtain ⟨SU, hSU⟩ : ∃ S, S = str l := ⟨_, rfl⟩
      rw [← hSU, ← unhide HUN] at cy
      have HCU := hide cy
      have hV : runpV (some l) = .tuple #[.string SU, .int .i64 0] := by rw [hSU]; rfl
      rw [hV]
      clear cx cy hSU hV
      go_upto_region 7 with fail
      refine region_named fun O hO => ?_
      refine wpList_val (by rw [hO]; kernel_rfl) (.slice (some ⟨xb, 0, none⟩) pn pn) (fun K9 hK9 => by go_simp; exact hK9) ?_
      (try simp only [Act.put, pq1, pq2, pq3])
      refine wpList_val (by rw [hO]; kernel_rfl) (.string SP) (fun K9 hK9 => by (have z9 := unhide HCP; go_simp); exact hK9) ?_
      (try simp only [Act.put, pq1, pq2, pq3])
      refine wpList_val (by rw [hO]; kernel_rfl) (.string SP) (fun K9 hK9 => by go_simp; exact hK9) ?_
      (try simp only [Act.put, pq1, pq2, pq3])
      refine wpList_val (by rw [hO]; kernel_rfl) (.bool true) (fun K9 hK9 => by go_simp; exact hK9) ?_
      (try simp only [Act.put, pq1, pq2, pq3])
      refine wpList_val (by rw [hO]; kernel_rfl) (.bool true) (fun K9 hK9 => by go_simp; exact hK9) ?_
      (try simp only [Act.put, pq1, pq2, pq3])
      refine wpList_val (by rw [hO]; kernel_rfl) (.int .i64 (0)) (fun K9 hK9 => by go_simp; exact hK9) ?_
      (try simp only [Act.put, pq1, pq2, pq3])
      refine wpList_val (by rw [hO]; kernel_rfl) (.int .i64 (0)) (fun K9 hK9 => by go_simp; exact hK9) ?_
      (try simp only [Act.put, pq1, pq2, pq3])
      refine wpList_val (by rw [hO]; kernel_rfl) (.bool true) (fun K9 hK9 => by go_simp; exact hK9) ?_
      (try simp only [Act.put, pq1, pq2, pq3])
      refine wpList_val (by rw [hO]; kernel_rfl) (.bool true) (fun K9 hK9 => by go_simp; exact hK9) ?_
      (try simp only [Act.put, pq1, pq2, pq3])
      refine wpList_val (by rw [hO]; kernel_rfl) (.bool true) (fun K9 hK9 => by go_simp; exact hK9) ?_
      (try simp only [Act.put, pq1, pq2, pq3])
      refine wpList_val (by rw [hO]; kernel_rfl) (.slice ua un uc) (fun K9 hK9 => by go_simp; exact hK9) ?_
      (try simp only [Act.put, pq1, pq2, pq3])
      refine wpList_val (by rw [hO]; kernel_rfl) (.string SU) (fun K9 hK9 => by (have z9 := unhide HCU; go_simp); exact hK9) ?_
      (try simp only [Act.put, pq1, pq2, pq3])
      refine wpList_val (by rw [hO]; kernel_rfl) (.string SU) (fun K9 hK9 => by go_simp; exact hK9) ?_
      (try simp only [Act.put, pq1, pq2, pq3])
      refine wpList_val (by rw [hO]; kernel_rfl) (.bool true) (fun K9 hK9 => by go_simp; exact hK9) ?_
      (try simp only [Act.put, pq1, pq2, pq3])
      refine wpList_val (by rw [hO]; kernel_rfl) (.bool true) (fun K9 hK9 => by go_simp; exact hK9) ?_
      (try simp only [Act.put, pq1, pq2, pq3])
      refine wpList_val (by rw [hO]; kernel_rfl) (.bool true) (fun K9 hK9 => by go_simp; exact hK9) ?_
      (try simp only [Act.put, pq1, pq2, pq3])
      refine wpList_val (by rw [hO]; kernel_rfl) (.int .i64 (0)) (fun K9 hK9 => by go_simp; exact hK9) ?_
      (try simp only [Act.put, pq1, pq2, pq3])
      refine wpList_val (by rw [hO]; kernel_rfl) (.int .i64 (0)) (fun K9 hK9 => by go_simp; exact hK9) ?_
      (try simp only [Act.put, pq1, pq2, pq3])
      refine wpList_val (by rw [hO]; kernel_rfl) (.bool true) (fun K9 hK9 => by go_simp; exact hK9) ?_
      (try simp only [Act.put, pq1, pq2, pq3])
      refine wpList_val (by rw [hO]; kernel_rfl) (.bool true) (fun K9 hK9 => by go_simp; exact hK9) ?_
      (try simp only [Act.put, pq1, pq2, pq3])
      refine wpList_val (by rw [hO]; kernel_rfl) (.bool true) (fun K9 hK9 => by go_simp; exact hK9) ?_
      (try simp only [Act.put, pq1, pq2, pq3])
      refine wpList_val (by rw [hO]; kernel_rfl) (.int .i64 (z)) (fun K9 hK9 => by go_simp; exact hK9) ?_
      (try simp only [Act.put, pq1, pq2, pq3])
      refine wpList_want (by rw [hO]; kernel_rfl) fun K9 hK9 => ?_
      go_simp
      go_at_call 11
      refine (padded_any w5 z).mono ?_
      rintro e w9 ⟨rfl, hw9⟩
      subst w9
      refine hK9 _ _ ?_
      clear hK9 K9
      (try simp only [Act.put, pq1, pq2, pq3])
      refine wpList_val (by rw [hO]; kernel_rfl) (.int .i64 (z)) (fun K9 hK9 => by go_simp; exact hK9) ?_
      (try simp only [Act.put, pq1, pq2, pq3])
      refine wpList_want (by rw [hO]; kernel_rfl) fun K9 hK9 => ?_
      go_simp
      go_at_call 12
      refine (rpadded_any w5 z).mono ?_
      rintro e w9 ⟨rfl, hw9⟩
      subst w9
      refine hK9 _ _ ?_
      clear hK9 K9
      (try simp only [Act.put, pq1, pq2, pq3])
      refine wpList_val (by rw [hO]; kernel_rfl) (.bool true) (fun K9 hK9 => by go_simp; exact hK9) ?_
      (try simp only [Act.put, pq1, pq2, pq3])
      refine wpList_val (by rw [hO]; kernel_rfl) (.bool true) (fun K9 hK9 => by go_simp; exact hK9) ?_
      (try simp only [Act.put, pq1, pq2, pq3])
      refine wpList_val (by rw [hO]; kernel_rfl) (.bool true) (fun K9 hK9 => by go_simp; exact hK9) ?_
      (try simp only [Act.put, pq1, pq2, pq3])
      refine wpList_val (by rw [hO]; kernel_rfl) (.int .i64 (z)) (fun K9 hK9 => by go_simp; exact hK9) ?_
      (try simp only [Act.put, pq1, pq2, pq3])
      refine wpList_want (by rw [hO]; kernel_rfl) fun K9 hK9 => ?_
      go_simp
      go_at_call 13
      refine (count_any w5 z).mono ?_
      rintro e w9 ⟨rfl, hw9⟩
      subst w9
      refine hK9 _ _ ?_
      clear hK9 K9
      (try simp only [Act.put, pq1, pq2, pq3])
      refine wpList_val (by rw [hO]; kernel_rfl) (.int .i64 (z)) (fun K9 hK9 => by go_simp; exact hK9) ?_
      (try simp only [Act.put, pq1, pq2, pq3])
      refine wpList_want (by rw [hO]; kernel_rfl) fun K9 hK9 => ?_
      go_simp
      go_at_call 14
      refine (rcount_any w5 z).mono ?_
      rintro e w9 ⟨rfl, hw9⟩
      subst w9
      refine hK9 _ _ ?_
      clear hK9 K9
      (try simp only [Act.put, pq1, pq2, pq3])
      refine wpList_val (by rw [hO]; kernel_rfl) (.bool true) (fun K9 hK9 => by go_simp; exact hK9) ?_
      (try simp only [Act.put, pq1, pq2, pq3])
      refine wpList_val (by rw [hO]; kernel_rfl) (.bool true) (fun K9 hK9 => by go_simp; exact hK9) ?_
      (try simp only [Act.put, pq1, pq2, pq3])
      refine wpList_val (by rw [hO]; kernel_rfl) (.bool true) (fun K9 hK9 => by go_simp; exact hK9) ?_
      (try simp only [Act.put, pq1, pq2, pq3])
      refine wpList_val (by rw [hO]; kernel_rfl) (.slice ao n c) (fun K9 hK9 => by go_simp; exact hK9) ?_
      (try simp only [Act.put, pq1, pq2, pq3])
      refine wpList_val (by rw [hO]; kernel_rfl) (.int .i64 (n : Int)) (fun K9 hK9 => by go_simp; exact hK9) ?_
      (try simp only [Act.put, pq1, pq2, pq3])
      refine wpList_want (by rw [hO]; kernel_rfl) fun K9 hK9 => ?_
      go_simp
      go_at_call 11
      refine (unhide HPN w5).mono ?_
      rintro e w9 ⟨rfl, hw9⟩
      subst w9
      refine hK9 _ _ ?_
      clear hK9 K9
      (try simp only [Act.put, pq1, pq2, pq3])
      refine wpList_val (by rw [hO]; kernel_rfl) (.slice (some ⟨xb, 0, none⟩) pn pn) (fun K9 hK9 => by go_simp; exact hK9) ?_
      (try simp only [Act.put, pq1, pq2, pq3])
      refine wpList_val (by rw [hO]; kernel_rfl) (.int .i64 (pn : Int)) (fun K9 hK9 => by go_simp; exact hK9) ?_
      (try simp only [Act.put, pq1, pq2, pq3])
      refine wpList_val (by rw [hO]; kernel_rfl) (.bool true) (fun K9 hK9 => by go_simp; exact hK9) ?_
      (try simp only [Act.put, pq1, pq2, pq3])
      refine wpList_val (by rw [hO]; kernel_rfl) (.bool true) (fun K9 hK9 => by go_simp; exact hK9) ?_
      (try simp only [Act.put, pq1, pq2, pq3])
      refine wpList_val (by rw [hO]; kernel_rfl) (.bool true) (fun K9 hK9 => by go_simp; exact hK9) ?_
      (try simp only [Act.put, pq1, pq2, pq3])
      refine wpList_want (by rw [hO]; kernel_rfl) fun K9 hK9 => ?_
      go_simp
      go_at_call 15
      refine (ckone_any w5).mono ?_
      rintro e w9 ⟨rfl, g9⟩
      have G9 := tn (unhide HG5) g9
      refine hK9 _ _ ?_
      clear hK9 K9
      (try simp only [Act.put, pq1, pq2, pq3])
      refine wpList_val (by rw [hO]; kernel_rfl) (.bool true) (fun K9 hK9 => by go_simp; exact hK9) ?_
      (try simp only [Act.put, pq1, pq2, pq3])
      refine wpList_val (by rw [hO]; kernel_rfl) (.bool true) (fun K9 hK9 => by go_simp; exact hK9) ?_
      (try simp only [Act.put, pq1, pq2, pq3])
      go_wp2
      go_ret
      exact ⟨rfl, G9⟩

end Go.Proofs.Ytadkpkdojbhigaa
